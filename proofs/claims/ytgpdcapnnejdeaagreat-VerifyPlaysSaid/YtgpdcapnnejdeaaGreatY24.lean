/-
  Contract: what the document's check tells, whatever comes: the model's answer. The conditions: its gate lies there; the epoch now is one; the bytes are few. And 4 texts more that this one stands on. No condition.
-/
import Derived.Test.YtgpdcapnnejdeaaGreatNGc
import Derived.Test.YtgpdcapnnejdeaaGreatNVTold
import Derived.Test.YtgpdcapnnejdeaaGreatY22
import Derived.Test.YtgpdcapnnejdeaaGreatNGm
import Derived.Test.YtgpdcapnnejdeaaGreatY25
import Derived.Test.YtgpdcapnnejdeaaGreatY19
import Derived.Test.YtgpdcapnnejdeaaGreatY7
import Derived.Test.YtgpdcapnnejdeaaGreatY2
import Derived.Deep.MidRow
import Derived.BigQuiet
import Derived.Deep.QuietTactic
section
set_option linter.unusedSimpArgs false
set_option linter.unusedVariables false
namespace Go.Proofs.YtgpdcapnnejdeaaGreat
set_option maxRecDepth 100000
open Go.RowKit

theorem rcheck_any {F : List Nat} {B : RBl} {c : Conf} {KN : Nat} {G : Gt} (s : ByteArray) (l : List UInt8) (hs : s.data.toList = l) (h1 : s.size ≤ 100000) (now : Int) (n0 : 0 ≤ now) (n1 : now ≤ 1099511627776) (w : World) (k : GrAt w F B c KN G) (hK : KN ≤ 1000000) :
  Calls Tryz.prog 19 #[.pointer (some ⟨B.g, 0, none⟩), .string s, .int .i64 now, .slice none 0 0] w fun e w' => e = .returned (.tuple #[mg (G.check l now nobody).1, .int .i64 (G.check l now nobody).2]) ∧ w.grownBy w' none := by
 have S := fun u => rsplit_all s l hs h1 u
 unfold Gt.check Gt.checkC
 cases hc : cutOf l with
 | none =>
  have e1 : spC l = 2 := by simp [spC, hc]
  rw [e1] at S ⊢
  rw [if_neg (by decide : ¬ (2 : Int) = 0), if_neg (by decide : ¬ (2 : Int) = 0)]
  exact rcheck_bytes s _ _ _ _ now w k n0 n1 S
 | some m =>
  have e1 : spC l = 0 := by simp [spC, hc]
  have e2 : spM l = m := by simp [spM, hc]
  have hM := cut_may hc
  have hX : (spX l).length ≤ 100000 := by unfold spX; split <;> simp [List.length_take]; omega
  obtain ⟨_, hw, _, hq, he, _⟩ := may_of hM
  rw [e1, e2] at S
  rw [e1, e2, if_pos rfl]
  by_cases h1 : G.in m.who = true
  ·have h1d := of_decide_eq_true h1
   by_cases h3 : G.may m now = true
   ·have C3 := fun u (k : GrAt u F B c KN G) => rkeyg_yes m now u k h1 hM h3
    have C4 := fun u => reftag_any (G.key m).a (G.key m).b (⟨(spX l).toArray⟩ : ByteArray) (by show (spX l).toArray.size ≤ 100000; simpa using hX) u
    simp only [List.toList_toArray] at C4
    by_cases h4 : spA l = sumOf (G.key m).a (G.key m).b (spX l) ∧ spB l = sumOf (G.key m).b (inv (G.key m).a) (spX l)
    ·have h4' : (sumOf (G.key m).a (G.key m).b (spX l) == spA l && sumOf (G.key m).b (inv (G.key m).a) (spX l) == spB l) = true := by simp [h4.1.symm, h4.2.symm]
     have C6 := fun u (k : GrAt u F B c KN G) => qmay_any m.seq u (rq_at (m := m) k h1) hK
     by_cases h5 : (G.rep m).may m.seq = true
     ·rw [h5] at C6
      by_cases h6 : G.time m.epoch now = true
      ·have h6d := of_decide_eq_true h6
       by_cases h7 : (G.met : Int) ≤ m.metric
       ·rw [show G.checkM l now nobody m = 1 by simp [Gt.checkM, h1, nobody, h3, h4, h5, h6, h7], if_neg (by decide : ¬ (1 : Int) = 0)]
        exact rcheck_metric s _ m _ _ now w k n0 n1 S h1d.2 hw.1 _ _ _ C3 _ _ C4 h4' C6 h6d.1 he.1 he.2 (by omega) h7
       ·rw [show G.checkM l now nobody m = 0 by simp [Gt.checkM, h1, nobody, h3, h4, h5, h6, h7], if_pos rfl]
        exact rcheck_ok s _ m _ _ now w k n0 n1 S h1d.2 hw.1 _ _ _ C3 _ _ C4 h4' C6 h6d.1 he.1 he.2 (by omega) h7
      ·have h6' : G.time m.epoch now = false := by simpa using h6
       rw [show G.checkM l now nobody m = 7 by simp [Gt.checkM, h1, nobody, h3, h4, h5, h6'], if_neg (by decide : ¬ (7 : Int) = 0)]
       have h6d := of_decide_eq_false h6'
       by_cases hlo : m.epoch < now
       ·exact rcheck_low s _ m _ _ now w k n0 n1 S h1d.2 hw.1 _ _ _ C3 _ _ C4 h4' C6 hlo he.1 he.2
       ·exact rcheck_high s _ m _ _ now w k n0 n1 S h1d.2 hw.1 _ _ _ C3 _ _ C4 h4' C6 (by omega) he.1 he.2 (by omega)
     ·have h5' : (G.rep m).may m.seq = false := by simpa using h5
      rw [show G.checkM l now nobody m = 6 by simp [Gt.checkM, h1, nobody, h3, h4, h5'], if_neg (by decide : ¬ (6 : Int) = 0)]
      rw [h5'] at C6
      exact rcheck_replay s _ m _ _ now w k n0 n1 S h1d.2 hw.1 _ _ _ C3 _ _ C4 h4' C6
    ·rw [show G.checkM l now nobody m = 5 by simp only [Gt.checkM]; rw [if_neg (by rw [h1]; simp [nobody]), if_neg (by rw [h3]; simp), if_pos h4], if_neg (by decide : ¬ (5 : Int) = 0)]
     have h4' : (sumOf (G.key m).a (G.key m).b (spX l) == spA l && sumOf (G.key m).b (inv (G.key m).a) (spX l) == spB l) = false := by
      apply Bool.eq_false_iff.2
      intro h
      simp only [Bool.and_eq_true, beq_iff_eq] at h
      exact h4 ⟨h.1.symm, h.2.symm⟩
     exact rcheck_auth s _ m _ _ now w k n0 n1 S h1d.2 hw.1 _ _ _ C3 _ _ C4 h4'
   ·have h3' : G.may m now = false := by simpa using h3
    rw [show G.checkM l now nobody m = 4 by simp [Gt.checkM, h1, nobody, h3'], if_neg (by decide : ¬ (4 : Int) = 0)]
    exact rcheck_gen s _ m _ _ now w k n0 n1 S h1d.2 hw.1 (fun u k => rkeyg_none m now u k h1 hM h3')
  ·have h1' : G.in m.who = false := by simpa using h1
   have h1d := of_decide_eq_false h1'
   rw [show G.checkM l now nobody m = 3 by simp [Gt.checkM, h1'], if_neg (by decide : ¬ (3 : Int) = 0)]
   exact rcheck_who s _ m _ _ now w k n0 n1 S (by omega) hw.1
end Go.Proofs.YtgpdcapnnejdeaaGreat
end
section
set_option linter.unusedSimpArgs false
set_option linter.unusedVariables false
namespace Go.Proofs.YtgpdcapnnejdeaaGreat
set_option maxRecDepth 100000
open Go.RowKit

theorem gnewr_fine {c : Conf} (h : Fine c) (w : World) : Calls Tryz.prog 11 #[cf c] w (MadeGr w c (gOf c)) := by
 have hn := h.n; have hf := h.f; have hg := h.grace; have hw := h.window; have hm := h.m; have hr := h.fresh
 exact gnewr_ok c (sdOf c) c.n.toNat c.grace.toNat c.window.toNat c.m.toNat c.fresh.toNat (fine_none h) (by omega) (by omega) (by omega) (by omega) (by omega) (seed_q h.seed)
  (by omega) (by omega) (by omega) (by omega) (by omega) (by omega) (by omega) (by omega) (by omega) (by omega) w
theorem rv_check {F : List Nat} {B : RBl} {c : Conf} {KN : Nat} {G : Gt} (s : ByteArray) (l : List UInt8) (hs : s.data.toList = l) (h1 : s.size ≤ 100000) (now : Int) (n0 : 0 ≤ now) (n1 : now ≤ 1099511627776) (m : Mg) (e : Int) (h : G.check l now nobody = (m, e)) (w : World) (k : GrAt w F B c KN G) (hK : KN ≤ 1000000) :
  Calls Tryz.prog 19 #[.pointer (some ⟨B.g, 0, none⟩), .string s, .int .i64 now, .slice none 0 0] w fun x w' => x = .returned (.tuple #[mg m, .int .i64 e]) ∧ w.grownBy w' none := by
 have := rcheck_any s l hs h1 now n0 n1 w k hK
 rw [h] at this
 exact this
structure Kt (w0 : World) (F : List Nat) (B : GBl) (F2 : List Nat) (B2 : RBl) (c : Conf) (KN : Nat) (G : Gt) (bs : List (Nat × Obj)) (v : Value) (l : List UInt8) (w : World) : Prop where
 gt : GtAt w F B G
 gr : GrAt w F2 B2 c KN G
 g : w0.grownBy w none
 bl : ∀ x ∈ bs, w.heap[x.1]? = some x.2
 yl : OwnB 0 w v l
 ny : ∀ k, v.ownBlock = some k → k ∉ F ∧ k ∉ F2 ∧ w0.heap.size ≤ k
section
variable {w0 w w1 : World} {F F2 : List Nat} {B : GBl} {B2 : RBl} {c : Conf} {KN : Nat} {G : Gt} {b n : Nat} {s s' : Sl} {bs : List (Nat × Obj)} {o : Obj} {v : Value} {l : List UInt8} {x0 : Nat × Obj}
theorem Kt.grown (h : Kt w0 F B F2 B2 c KN G bs v l w) (hg : w.grownBy w1 none) : Kt w0 F B F2 B2 c KN G bs v l w1 :=
 ⟨h.gt.grown hg, h.gr.grown hg, gb_trans h.g hg (.inl rfl), fun x hx => at_grown (h.bl x hx) hg (by simp), h.yl.grown hg (by simp), h.ny⟩
theorem Kt.drew (h : Kt w0 F B F2 B2 c KN G bs v l w) : Kt w0 F B F2 B2 c KN G bs v l w.drew := h.grown (gb_drew (.refl w none))
theorem Kt.alloc (h : Kt w0 F B F2 B2 c KN G bs v l w) (o : Obj) : Kt w0 F B F2 B2 c KN G ((w.heap.size, o) :: bs) v l (w.alloc o) := by
 have k := h.grown (World.grownBy_alloc w o none)
 refine ⟨k.gt, k.gr, k.g, fun x hx => ?_, k.yl, k.ny⟩
 rcases List.mem_cons.1 hx with rfl | hx
 ·exact at_new w o
 ·exact k.bl x hx
theorem Kt.tail (h : Kt w0 F B F2 B2 c KN G (x0 :: bs) v l w) : Kt w0 F B F2 B2 c KN G bs v l w := ⟨h.gt, h.gr, h.g, fun x hx => h.bl x (List.mem_cons_of_mem _ hx), h.yl, h.ny⟩
theorem Kt.b0 (h : Kt w0 F B F2 B2 c KN G ((n, o) :: bs) v l w) : w.heap[n]? = some o := h.bl (n, o) (by simp)
theorem Kt.b1 (h : Kt w0 F B F2 B2 c KN G (x0 :: (n, o) :: bs) v l w) : w.heap[n]? = some o := h.tail.b0
theorem Kt.byte (h : Kt w0 F B F2 B2 c KN G [] v l w) {k cp i : Nat} {x : UInt8} (hv : v = .slice (some ⟨k, 0, none⟩) l.length cp) (hi : i < l.length) : Kt w0 F B F2 B2 c KN G [] v (l.set i x) (w.setCell ⟨k, i, none⟩ (.int .u8 (x.toNat : Int))) := by
 obtain ⟨n1, n2, n3⟩ := h.ny k (by rw [hv]; rfl)
 have hc : Chg [k] w (w.setCell ⟨k, i, none⟩ (.int .u8 (x.toNat : Int))) := (chg_refl w [k]).set (.inl (by simp)) _
 refine ⟨h.gt.chg hc (fun y hy e => n1 (by rcases List.mem_singleton.1 e with rfl; exact hy)), h.gr.chg hc (fun y hy e => n2 (by rcases List.mem_singleton.1 e with rfl; exact hy)), gb_new h.g n3 _, (fun x hx => by cases hx), ?_, h.ny⟩
 have hy := h.yl
 subst hv
 obtain ⟨h0, e | ⟨g, cap, cur, e, hb, hh, h1, h2, h3, h4⟩⟩ := hy
 ·cases e.1
 ·cases e
  refine ⟨by simp, .inr ⟨_, _, cur.setIfInBounds i (.int .u8 (x.toNat : Int)), by simp, hb, at_set hh i _, by simpa using h1, h2, by simpa using h3, ?_⟩⟩
  rw [Array.toList_setIfInBounds, List.length_set, List.take_set, h4]
  apply List.ext_getElem?
  intro j
  simp [List.getElem?_set, bv]
end
end Go.Proofs.YtgpdcapnnejdeaaGreat
end
section
set_option linter.unusedSimpArgs false
set_option linter.unusedVariables false
namespace Go.Proofs.YtgpdcapnnejdeaaGreat
set_option maxRecDepth 100000
open Go.RowKit

structure Ply (w0 : World) (bx : Nat) (F : List Nat) (B : GBl) (G : Gt) (F2 : List Nat) (B2 : RBl) (c : Conf) (KN : Nat) (G2 : Gt) (vs : Value) (ls : List Nat) (sl : Nat → Sl) (vt : Value) (st : List ByteArray) (w : World) : Prop where
 gt : GtAt w F B G
 gr : GrAt w F2 B2 c KN G2
 box : w.heap[bx]? = some (confObj c)
 slr : OwnS w vs ls
 sls : ∀ i (h : i < ls.length), SlAt 108 w ls[i] (sl i)
 snt : OwnT w vt st
 nd : ls.Nodup
 dFG : Dj F F2
 dF : ∀ x ∈ bx :: (ls ++ (ownL vs ++ ownL vt)), x ∉ F ∧ x ∉ F2
 lo : ∀ x ∈ F ++ (F2 ++ (ls ++ (ownL vs ++ ownL vt))), w0.heap.size ≤ x
 g : w0.grownBy w none
section
variable {w0 w w1 : World} {bx KN : Nat} {F F2 : List Nat} {B : GBl} {B2 : RBl} {c : Conf} {G G2 : Gt} {vs vt v' : Value} {ls : List Nat} {sl : Nat → Sl} {st : List ByteArray}
theorem Ply.grown (h : Ply w0 bx F B G F2 B2 c KN G2 vs ls sl vt st w) (hg : w.grownBy w1 none) : Ply w0 bx F B G F2 B2 c KN G2 vs ls sl vt st w1 :=
 ⟨h.gt.grown hg, h.gr.grown hg, at_grown h.box hg (by simp), h.slr.chg (chg_grown hg []) (by simp), fun i hi => (h.sls i hi).grown hg, h.snt.chg (chg_grown hg []) (by simp), h.nd, h.dFG, h.dF, h.lo, gb_trans h.g hg (.inl rfl)⟩
theorem Ply.drew (h : Ply w0 bx F B G F2 B2 c KN G2 vs ls sl vt st w) : Ply w0 bx F B G F2 B2 c KN G2 vs ls sl vt st w.drew := h.grown (gb_drew (.refl w none))
theorem Ply.mls (h : Ply w0 bx F B G F2 B2 c KN G2 vs ls sl vt st w) {x : Nat} (hx : x ∈ ls) : ∃ cs : Array Value, w.heap[x]? = some (.cells cs 108) := by
 obtain ⟨i, hi, rfl⟩ := List.getElem_of_mem hx
 exact ⟨_, (h.sls i hi).top⟩
theorem Ply.sealed (h : Ply w0 bx F B G F2 B2 c KN G2 vs ls sl vt st w) {i : Nat} (hi : i < ls.length) {s' : Sl} (hs : SlAt 108 w1 ls[i] s') (hc : Chg [ls[i]] w w1) :
  Ply w0 bx F B G F2 B2 c KN G2 vs ls (fun j => if j = i then s' else sl j) vt st w1 := by
 have hm : ls[i] ∈ ls := List.getElem_mem _
 have ht := (h.sls i hi).top
 have hd := h.dF ls[i] (by simp [hm])
 refine ⟨h.gt.chg hc (fun x hx e => hd.1 (List.mem_singleton.1 e ▸ hx)), h.gr.chg hc (fun x hx e => hd.2 (List.mem_singleton.1 e ▸ hx)), hc.at h.box (by simpa using obj_ne h.box ht (by decide)), h.slr.chg hc (fun k hk e => ?_), fun j hj => ?_, h.snt.chg hc (fun k hk e => ?_), h.nd, h.dFG, h.dF, h.lo,
  (Chg.trans (chg_grown h.g []) hc (fun x hx => .inr (h.lo x (by rw [List.mem_singleton.1 hx]; simp [hm])))).free (fun x hx => by cases hx)⟩
 ·obtain ⟨cs, e1⟩ := h.slr.obj hk
  exact obj_ne e1 ht (by decide) (List.mem_singleton.1 e)
 ·by_cases e : j = i
  ·subst e; rw [if_pos rfl]; exact hs
  ·rw [if_neg e]
   exact (h.sls j hj).chg hc (fun hx => e (nd_inj h.nd hj hi (List.mem_singleton.1 hx)))
 ·obtain ⟨cs, e1⟩ := h.snt.obj hk
  exact obj_ne e1 ht (by decide) (List.mem_singleton.1 e)
theorem Ply.send (h : Ply w0 bx F B G F2 B2 c KN G2 vs ls sl vt st w) {x : ByteArray} (o : OwnT w1 v' (st ++ [x])) (hg : w.grownBy w1 vt.ownBlock) (ob : v'.ownBlock = vt.ownBlock ∨ v'.ownBlock = some w.heap.size) :
  Ply w0 bx F B G F2 B2 c KN G2 vs ls sl v' (st ++ [x]) w1 := by
 have hc := chg_own hg
 have hv : ∀ k ∈ ownL v', k ∈ ownL vt ∨ k = w.heap.size := ownL_of ob
 have hd : ∀ k ∈ ownL vt, k ∉ F ∧ k ∉ F2 := fun k hk => h.dF k (by simp [hk])
 refine ⟨h.gt.chg hc (fun x hx e => (hd x e).1 hx), h.gr.chg hc (fun x hx e => (hd x e).2 hx), hc.at h.box (fun e => ?_), h.slr.chg hc (fun k hk e => ?_), fun j hj => (h.sls j hj).chg hc (fun e => ?_), o, h.nd, h.dFG, fun k hk => ?_, fun k hk => ?_,
  (Chg.trans (chg_grown h.g []) hc (fun x hx => .inr (h.lo x (by simp [hx])))).free (fun x hx => by cases hx)⟩
 ·obtain ⟨cs, e1⟩ := h.snt.obj e
  exact obj_ne h.box e1 (by decide) rfl
 ·obtain ⟨cs, e1⟩ := h.slr.obj hk
  obtain ⟨ds, e2⟩ := h.snt.obj e
  exact obj_ne e1 e2 (by decide) rfl
 ·obtain ⟨ds, e2⟩ := h.snt.obj e
  exact obj_ne (h.sls j hj).top e2 (by decide) rfl
 ·have hnew : k = w.heap.size → k ∉ F ∧ k ∉ F2 := fun e => ⟨fun m => by have := h.gt.lt _ m; omega, fun m => by have := h.gr.lt _ m; omega⟩
  simp only [List.mem_cons, List.mem_append] at hk
  rcases hk with hk | hk | hk | hk
  ·exact h.dF k (by simp [hk])
  ·exact h.dF k (by simp [hk])
  ·exact h.dF k (by simp [hk])
  ·rcases hv k hk with e | e
   ·exact hd k e
   ·exact hnew e
 ·simp only [List.mem_append] at hk
  have hz := gb_size h.g
  rcases hk with hk | hk | hk | hk | hk
  ·exact h.lo k (by simp [hk])
  ·exact h.lo k (by simp [hk])
  ·exact h.lo k (by simp [hk])
  ·exact h.lo k (by simp [hk])
  ·rcases hv k hk with e | e
   ·exact h.lo k (by simp [e])
   ·omega
theorem Ply.lt (h : Ply w0 bx F B G F2 B2 c KN G2 vs ls sl vt st w) : ∀ x ∈ bx :: (ls ++ (ownL vs ++ ownL vt)), x < w.heap.size := fun x hx => by
 simp only [List.mem_cons, List.mem_append] at hx
 rcases hx with rfl | hx | hx | hx
 ·exact at_lt h.box
 ·obtain ⟨cs, e⟩ := h.mls hx; exact at_lt e
 ·obtain ⟨cs, e⟩ := h.slr.obj hx; exact at_lt e
 ·obtain ⟨cs, e⟩ := h.snt.obj hx; exact at_lt e
theorem Ply.tookP0 (h : Ply w0 bx F B G F2 B2 c KN G2 vs ls sl vt st w) {F' : List Nat} {B' : GBl} {k2 : Gt} (hk : GtAt w1 F' B' k2) (hc : Chg F w w1) (hF : ∀ x ∈ F', x ∈ F ∨ w.heap.size ≤ x) : Ply w0 bx F' B' k2 F2 B2 c KN G2 vs ls sl vt st w1 := by
 have out : ∀ x, x ∈ bx :: (ls ++ (ownL vs ++ ownL vt)) → x ∉ F := fun x hx => (h.dF x hx).1
 have old : ∀ x, x < w.heap.size → x ∉ F → x ∉ F' := fun x hx hn hm => by
  rcases hF x hm with e | e
  ·exact hn e
  ·omega
 refine ⟨hk, h.gr.chg hc (fun x hx m => h.dFG x m hx), hc.at h.box (out _ (by simp)), h.slr.chg hc (fun k hk => out k (by simp [hk])), fun j hj => (h.sls j hj).chg hc (out _ (by simp)), h.snt.chg hc (fun k hk => out k (by simp [hk])), h.nd, fun x hx m => ?_, fun x hx => ⟨old x (h.lt x hx) (out x hx), (h.dF x hx).2⟩, fun x hx => ?_,
  (Chg.trans (chg_grown h.g []) hc (fun x hx => .inr (h.lo x (by simp [hx])))).free (fun x hx => by cases hx)⟩
 ·rcases hF x hx with e | e
  ·exact h.dFG x e m
  ·have := h.gr.lt _ m; omega
 ·rcases List.mem_append.1 hx with hx | hx
  ·rcases hF x hx with e | e
   ·exact h.lo x (by simp [e])
   ·have := gb_size h.g; omega
  ·exact h.lo x (List.mem_append_right _ hx)
theorem Ply.tookR0 (h : Ply w0 bx F B G F2 B2 c KN G2 vs ls sl vt st w) {F' : List Nat} {B' : RBl} {k2 : Gt} (hk : GrAt w1 F' B' c (KN + 1) k2) (hc : Chg F2 w w1) (hF : ∀ x ∈ F', x ∈ F2 ∨ w.heap.size ≤ x) : Ply w0 bx F B G F' B' c (KN + 1) k2 vs ls sl vt st w1 := by
 have out : ∀ x, x ∈ bx :: (ls ++ (ownL vs ++ ownL vt)) → x ∉ F2 := fun x hx => (h.dF x hx).2
 have old : ∀ x, x < w.heap.size → x ∉ F2 → x ∉ F' := fun x hx hn hm => by
  rcases hF x hm with e | e
  ·exact hn e
  ·omega
 refine ⟨h.gt.chg hc (fun x hx m => h.dFG x hx m), hk, hc.at h.box (out _ (by simp)), h.slr.chg hc (fun k hk => out k (by simp [hk])), fun j hj => (h.sls j hj).chg hc (out _ (by simp)), h.snt.chg hc (fun k hk => out k (by simp [hk])), h.nd, fun x hx m => ?_, fun x hx => ⟨(h.dF x hx).1, old x (h.lt x hx) (out x hx)⟩, fun x hx => ?_,
  (Chg.trans (chg_grown h.g []) hc (fun x hx => .inr (h.lo x (by simp [hx])))).free (fun x hx => by cases hx)⟩
 ·rcases hF x m with e | e
  ·exact h.dFG x hx e
  ·have := h.gt.lt _ hx; omega
 ·simp only [List.mem_append] at hx
  rcases hx with hx | hx | hx
  ·exact h.lo x (by simp [hx])
  ·rcases hF x hx with e | e
   ·exact h.lo x (by simp [e])
   ·have := gb_size h.g; omega
  ·exact h.lo x (by simp only [List.mem_append]; exact .inr (.inr hx))
end
theorem Ply.join {w0 w w1 w2 : World} {bx KN : Nat} {F F2 : List Nat} {B : GBl} {B2 : RBl} {c : Conf} {G G2 : Gt} {vs vt v' : Value} {ls : List Nat} {sl : Nat → Sl} {st : List ByteArray} {nb : Nat} {s : Sl} (h : Ply w0 bx F B G F2 B2 c KN G2 vs ls sl vt st w) (hg : w.grownBy w1 none) (hs : SlAt 108 w1 nb s) (hz : w.heap.size ≤ nb)
  (o : OwnS w2 v' (ls ++ [nb])) (hg2 : w1.grownBy w2 vs.ownBlock) (ob : v'.ownBlock = vs.ownBlock ∨ v'.ownBlock = some w1.heap.size) :
  Ply w0 bx F B G F2 B2 c KN G2 v' (ls ++ [nb]) (fun j => if j = ls.length then s else sl j) vt st w2 := by
 have h1 := h.grown hg
 have hc := chg_own hg2
 have hv : ∀ k ∈ ownL v', k ∈ ownL vs ∨ k = w1.heap.size := ownL_of ob
 have hd : ∀ k ∈ ownL vs, k ∉ F ∧ k ∉ F2 := fun k hk => h.dF k (by simp [hk])
 have hsz := gb_size hg
 have hnew : ∀ k, w.heap.size ≤ k → k ∉ F ∧ k ∉ F2 := fun k e => ⟨fun m => by have := h.gt.lt _ m; omega, fun m => by have := h.gr.lt _ m; omega⟩
 have no : ∀ {k : Nat} {cs : Array Value} {t : TypeId}, w1.heap[k]? = some (.cells cs t) → t ≠ 35 → k ∉ ownL vs := fun hk ht e => by
  obtain ⟨ds, e2⟩ := h1.slr.obj e
  exact obj_ne hk e2 ht rfl
 refine ⟨h1.gt.chg hc (fun x hx e => (hd x e).1 hx), h1.gr.chg hc (fun x hx e => (hd x e).2 hx), hc.at h1.box (no h1.box (by decide)), o, fun j hj => ?_, h1.snt.chg hc (fun k hk e => ?_), ?_, h.dFG, fun k hk => ?_, fun k hk => ?_,
  (Chg.trans (chg_grown h1.g []) hc (fun x hx => .inr (h.lo x (by simp [hx])))).free (fun x hx => by cases hx)⟩
 ·by_cases e : j = ls.length
  ·subst e
   rw [if_pos rfl, show (ls ++ [nb])[ls.length] = nb by simp]
   exact hs.chg hc (no hs.top (by decide))
  ·have hj' : j < ls.length := by simp at hj; omega
   rw [if_neg e, show (ls ++ [nb])[j] = ls[j] from List.getElem_append_left hj']
   exact (h1.sls j hj').chg hc (no (h1.sls j hj').top (by decide))
 ·obtain ⟨cs, e1⟩ := h1.snt.obj hk
  exact no e1 (by decide) e
 ·rw [List.nodup_append]
  refine ⟨h.nd, by simp, fun a ha b hb e => ?_⟩
  rw [List.mem_singleton.1 hb] at e
  have := h.lt a (by simp [ha])
  omega
 ·simp only [List.mem_cons, List.mem_append, List.not_mem_nil, or_false] at hk
  rcases hk with hk | (hk | hk) | hk | hk
  ·exact h.dF k (by simp [hk])
  ·exact h.dF k (by simp [hk])
  ·exact hk ▸ hnew nb hz
  ·rcases hv k hk with e | e
   ·exact hd k e
   ·exact hnew k (by omega)
  ·exact h.dF k (by simp [hk])
 ·simp only [List.mem_append, List.mem_singleton] at hk
  have hz0 := gb_size h.g
  rcases hk with hk | hk | (hk | hk) | hk | hk
  ·exact h.lo k (by simp [hk])
  ·exact h.lo k (by simp [hk])
  ·exact h.lo k (by simp [hk])
  ·omega
  ·rcases hv k hk with e | e
   ·exact h.lo k (by simp [e])
   ·omega
  ·exact h.lo k (by simp [hk])
end Go.Proofs.YtgpdcapnnejdeaaGreat
end
section
set_option linter.unusedSimpArgs false
set_option linter.unusedVariables false
namespace Go.Proofs.YtgpdcapnnejdeaaGreat
set_option maxRecDepth 100000
open Go.RowKit

theorem size_allocV (w : World) (o : Obj) : (w.alloc o).heap.size = w.heap.size + 1 := by show (w.heap.push o).size = _; simp
theorem OwnS.at {w : World} {g n c : Nat} {l : List Nat} (h : OwnS w (.slice (some ⟨g, 0, none⟩) n c) l) {j : Nat} (hj : j < l.length) : w.cell? ⟨g, j, none⟩ = some (.pointer (some ⟨l[j], 0, none⟩)) := by
 obtain ⟨g', c', cs, e, _, _, hb, hcs⟩ := h.full (by omega)
 cases e
 rw [at_cell hb]; exact hcs j hj
theorem OwnT.at {w : World} {g n c : Nat} {l : List ByteArray} (h : OwnT w (.slice (some ⟨g, 0, none⟩) n c) l) {j : Nat} (hj : j < l.length) : w.cell? ⟨g, j, none⟩ = some (.string l[j]) := by
 obtain ⟨g', c', cs, e, _, _, hb, hcs⟩ := h.full (by omega)
 cases e
 rw [at_cell hb]; exact hcs j hj
theorem wpList_mid {ops : Array Oper} {rest : List Oper} {o : Oper} {a : Act} {w : World} {Q : Exit → Act → World → Prop} {b of : Nat} {ty : TypeId} {x : Operand} {dst : Option Tmp} {cs : List Value} {d : TypeDesc} (hc : w.rangeAt b of cs) (hu : Tryz.prog.underlying ty = some d) (hd : d.isRow = true) (hi : (Tryz.prog.info? ty).map (·.size) = some cs.length)
  (hg : o.guard = none) (ho : o.op = .load ty x) (hdst : o.dst = dst) (hx : a.eval x = .pointer (some ⟨b, of, none⟩))
  (k : wpList Tryz.prog ops Q rest (a.put dst (.agg cs.toArray)) w) : wpList Tryz.prog ops Q (o :: rest) a w := by
 refine Great.wpList_readTo hg dst hdst (.agg cs.toArray) ?_ k
 simp only [execOp, ho, hx, Sem.run_bind, Instr.loadAt, Instr.sureAddr, Sem.run_pure, Result.andThen_ok, run_loadVar_mid w b of ty cs d hc hu hd hi]
theorem conv_str2 (s : ByteArray) (l : List UInt8) (hl : s.data.toList = l) (hs : s.size ≤ 100000) (w : World) :
  ∃ c w', (convert 9 40 (.string s)).run Tryz.prog w = .ok (.slice (some ⟨w.heap.size, 0, none⟩) s.size c) w' ∧ s.size ≤ c ∧ c ≤ maxLen ∧ w.grownBy w' none ∧ w.heap.size < w'.heap.size ∧ ∃ (cs : Array Value) (f : Nat × Nat), w'.heap[w.heap.size]? = some (.cells cs 5 f) ∧ (∀ j, j < l.length → w'.frozen? ⟨w.heap.size, j, none⟩ = false) ∧ ∀ (j : Nat) (x : UInt8), l[j]? = some x → cs[j]? = some (Value.int .u8 (x.toNat : Int)) := by
 have hcs : ∀ (j : Nat) (x : UInt8), l[j]? = some x → (bytesRow s (grownCap w s.size 0 5))[j]? = some (Value.int .u8 (x.toNat : Int)) := fun j x hj => by
  obtain ⟨hlt, rfl⟩ := List.getElem?_eq_some_iff.1 hj
  rw [bytesRow_at s _ j (by rw [← hl] at hlt; simpa using hlt)]
  subst hl
  simp
 refine ⟨_, _, run_bytes_of_string w 9 40 5 s Tryz.underlying9 Tryz.underlying40 Tryz.underlying5, grownCap_ge _ _ _ _, grownCap_le_maxLen _ _ _ _ (by unfold maxLen; omega), gb_alloc (gb_drew (.refl w none)) _, by rw [size_allocV]; exact Nat.lt_succ_self _, _, _, at_new w.drew _, fun j hj => ?_, hcs⟩
 have h1 := hcs j _ (List.getElem?_eq_getElem hj)
 obtain ⟨h2, _⟩ := Array.getElem?_eq_some_iff.1 h1
 have h3 := at_new w.drew (.cells (bytesRow s (grownCap w s.size 0 5)) 5 ((bytesRow s (grownCap w s.size 0 5)).size, (bytesRow s (grownCap w s.size 0 5)).size + 1))
 simp only [World.frozen?]
 rw [show (w.drew.alloc (.cells (bytesRow s (grownCap w s.size 0 5)) 5 ((bytesRow s (grownCap w s.size 0 5)).size, (bytesRow s (grownCap w s.size 0 5)).size + 1))).heap[w.heap.size]? = _ from h3]
 simp; omega
theorem bytes_blk {w : World} {b n c : Nat} {cs : Array Value} {f : Nat × Nat} {l : List UInt8} (hb : w.heap[b]? = some (.cells cs 5 f)) (hl : l.length = n) (hc : n ≤ c) (hm : c ≤ maxLen) (h : ∀ (j : Nat) (x : UInt8), l[j]? = some x → cs[j]? = some (Value.int .u8 (x.toNat : Int))) : BytesAt w (.slice (some ⟨b, 0, none⟩) n c) l :=
 .inr ⟨_, _, by rw [hl], by rw [hl]; exact hc, hm, fun i hi => by
  have e : (⟨b, 0, none⟩ : Addr).add i = ⟨b, i, none⟩ := by unfold Addr.add; split <;> simp_all
  rw [e, at_cell hb]; exact h i _ (List.getElem?_eq_getElem hi)⟩
def Opv.obj (o : Opv) : Obj := .cells #[.int .i64 o.k, .int .i64 o.who, .int .i64 o.a, .int .i64 o.b, .int .i64 o.v, .int .i64 o.m.kind, .int .i64 o.m.who, .int .i64 o.m.gen, .int .i64 o.m.seq, .int .i64 o.m.epoch, .int .i64 o.m.value, .int .i64 o.m.metric, o.sv] 42
structure Plb (w0 : World) (bx : Nat) (F : List Nat) (B : GBl) (G : Gt) (F2 : List Nat) (B2 : RBl) (c : Conf) (KN : Nat) (G2 : Gt) (vs : Value) (ls : List Nat) (sl : Nat → Sl) (vt : Value) (st : List ByteArray) (xo : Nat) (o : Opv) (w : World) : Prop where
 p : Ply w0 bx F B G F2 B2 c KN G2 vs ls sl vt st w
 b : w.heap[xo]? = some o.obj
 n1 : xo ∉ F
 n2 : xo ∉ F2
section
variable {w0 w w1 : World} {bx KN xo : Nat} {F F2 : List Nat} {B : GBl} {B2 : RBl} {c : Conf} {G G2 : Gt} {vs vt v' : Value} {ls : List Nat} {sl : Nat → Sl} {st : List ByteArray} {o : Opv}
theorem Plb.start (h : Ply w0 bx F B G F2 B2 c KN G2 vs ls sl vt st w) (o : Opv) : Plb w0 bx F B G F2 B2 c KN G2 vs ls sl vt st w.heap.size o (w.alloc o.obj) :=
 ⟨h.grown (World.grownBy_alloc w _ none), at_new w _, fun hm => by have := h.gt.lt _ hm; omega, fun hm => by have := h.gr.lt _ hm; omega⟩
theorem Plb.grown (h : Plb w0 bx F B G F2 B2 c KN G2 vs ls sl vt st xo o w) (hg : w.grownBy w1 none) : Plb w0 bx F B G F2 B2 c KN G2 vs ls sl vt st xo o w1 := ⟨h.p.grown hg, at_grown h.b hg (by simp), h.n1, h.n2⟩
theorem Plb.drew (h : Plb w0 bx F B G F2 B2 c KN G2 vs ls sl vt st xo o w) : Plb w0 bx F B G F2 B2 c KN G2 vs ls sl vt st xo o w.drew := ⟨h.p.drew, h.b, h.n1, h.n2⟩
theorem Plb.sealed (h : Plb w0 bx F B G F2 B2 c KN G2 vs ls sl vt st xo o w) {i : Nat} (hi : i < ls.length) {s' : Sl} (hs : SlAt 108 w1 ls[i] s') (hc : Chg [ls[i]] w w1) :
  Plb w0 bx F B G F2 B2 c KN G2 vs ls (fun j => if j = i then s' else sl j) vt st xo o w1 :=
 ⟨h.p.sealed hi hs hc, hc.at h.b (by simpa using obj_ne h.b (h.p.sls i hi).top (by decide)), h.n1, h.n2⟩
theorem Plb.send (h : Plb w0 bx F B G F2 B2 c KN G2 vs ls sl vt st xo o w) {x : ByteArray} (ow : OwnT w1 v' (st ++ [x])) (hg : w.grownBy w1 vt.ownBlock) (ob : v'.ownBlock = vt.ownBlock ∨ v'.ownBlock = some w.heap.size) :
  Plb w0 bx F B G F2 B2 c KN G2 vs ls sl v' (st ++ [x]) xo o w1 :=
 ⟨h.p.send ow hg ob, (chg_own hg).at h.b (fun e => by obtain ⟨cs, e1⟩ := h.p.snt.obj e; exact obj_ne h.b e1 (by decide) rfl), h.n1, h.n2⟩
theorem Plb.cells (h : Plb w0 bx F B G F2 B2 c KN G2 vs ls sl vt st xo o w) : w.cell? ⟨xo, 0, none⟩ = some (.int .i64 o.k) ∧ w.cell? ⟨xo, 1, none⟩ = some (.int .i64 o.who) ∧ w.cell? ⟨xo, 2, none⟩ = some (.int .i64 o.a) ∧ w.cell? ⟨xo, 3, none⟩ = some (.int .i64 o.b) ∧ w.cell? ⟨xo, 4, none⟩ = some (.int .i64 o.v) ∧ w.cell? ⟨xo, 12, none⟩ = some o.sv :=
 ⟨at_cell h.b 0, at_cell h.b 1, at_cell h.b 2, at_cell h.b 3, at_cell h.b 4, at_cell h.b 12⟩
theorem Plb.msg (h : Plb w0 bx F B G F2 B2 c KN G2 vs ls sl vt st xo o w) : w.cell? ⟨xo, 5, none⟩ = some (.int .i64 o.m.kind) ∧ w.cell? ⟨xo, 6, none⟩ = some (.int .i64 o.m.who) ∧ w.cell? ⟨xo, 7, none⟩ = some (.int .i64 o.m.gen) ∧ w.cell? ⟨xo, 8, none⟩ = some (.int .i64 o.m.seq) ∧ w.cell? ⟨xo, 9, none⟩ = some (.int .i64 o.m.epoch) ∧ w.cell? ⟨xo, 10, none⟩ = some (.int .i64 o.m.value) ∧ w.cell? ⟨xo, 11, none⟩ = some (.int .i64 o.m.metric) :=
 ⟨at_cell h.b 5, at_cell h.b 6, at_cell h.b 7, at_cell h.b 8, at_cell h.b 9, at_cell h.b 10, at_cell h.b 11⟩
end
end Go.Proofs.YtgpdcapnnejdeaaGreat
end
section
set_option linter.unusedSimpArgs false
set_option linter.unusedVariables false
namespace Go.Proofs.YtgpdcapnnejdeaaGreat
set_option maxRecDepth 100000
open Go.RowKit

theorem spC_may {l : List UInt8} (h : spC l = 0) : mayOf (spM l) = true := by
 unfold spC at h
 split at h
 ·next hc =>
  obtain ⟨m, hm⟩ := Option.isSome_iff_exists.1 hc
  unfold spM
  rw [hm]
  unfold cutOf at hm
  split at hm
  ·unfold getOf at hm
   split at hm
   ·next hg => cases hm; exact decide_eq_true hg.2.2
   ·cases hm
  ·cases hm
 ·cases h
theorem take_zero {G : Gt} {l : List UInt8} {now : Int} {m : Mg} (h : G.check l now nobody = (m, 0)) (n0 : 0 ≤ now) (n1 : now ≤ 1099511627776) : (G.take m now).1 = 0 := by
 unfold Gt.check at h
 split at h
 ·next hc =>
  have hm : spM l = m := (Prod.mk.inj h).1
  unfold Gt.checkC at hc
  split at hc
  ·next hs =>
   have hmay := spC_may hs
   rw [hm] at hmay hc
   unfold Gt.checkM at hc
   split at hc
   ·cases hc
   next h1 =>
   split at hc
   ·cases hc
   next h2 =>
   split at hc
   ·cases hc
   split at hc
   ·cases hc
   next h4 =>
   unfold Gt.take
   rw [if_neg (by rintro (e | e | e); rw [hmay] at e; cases e; omega; omega), if_neg (fun e => h1 (.inl e)), if_neg h2, if_neg h4]
   split <;> rfl
  ·cases hc
 ·next hc => exact absurd (Prod.mk.inj h).2 hc
theorem exec_mid {w : World} {o : Oper} {b of : Nat} {ty : TypeId} {x : Operand} {cs : List Value} {d : TypeDesc} {ρ : Operand → Value} (hc : w.rangeAt b of cs) (hu : Tryz.prog.underlying ty = some d) (hd : d.isRow = true) (hi : (Tryz.prog.info? ty).map (·.size) = some cs.length)
  (ho : o.op = .load ty x) (hx : ρ x = .pointer (some ⟨b, of, none⟩)) : (execOp ρ o).run Tryz.prog w = .ok (.value (.agg cs.toArray)) w := by
 simp only [execOp, ho, hx, Sem.run_bind, Instr.loadAt, Instr.sureAddr, Sem.run_pure, Result.andThen_ok, run_loadVar_mid w b of ty cs d hc hu hd hi]
theorem msg_mid {w : World} {b : Nat} {t : TypeId} {f : Nat × Nat} {a0 a1 a2 a3 a4 b0 b1 b2 b3 b4 b5 b6 e : Value} (h : w.heap[b]? = some (.cells #[a0, a1, a2, a3, a4, b0, b1, b2, b3, b4, b5, b6, e] t f)) : w.rangeAt b 5 [b0, b1, b2, b3, b4, b5, b6] := fun j v hj => by
 rw [at_cell h]
 match j, hj with
 | 0, hj => exact hj
 | 1, hj => exact hj
 | 2, hj => exact hj
 | 3, hj => exact hj
 | 4, hj => exact hj
 | 5, hj => exact hj
 | 6, hj => exact hj
 | j + 7, hj => simp at hj
section
variable {w0 w w1 : World} {bx KN xo : Nat} {F F2 F' : List Nat} {B B' : GBl} {B2 B2' : RBl} {c : Conf} {G G2 k2 : Gt} {vs vt v' : Value} {ls : List Nat} {sl : Nat → Sl} {st : List ByteArray} {o : Opv}
theorem Plb.tookP1 (h : Plb w0 bx F B G F2 B2 c KN G2 vs ls sl vt st xo o w) (hk : GtAt w1 F' B' k2) (hc : Chg F w w1) (hF : ∀ x ∈ F', x ∈ F ∨ w.heap.size ≤ x) : Plb w0 bx F' B' k2 F2 B2 c KN G2 vs ls sl vt st xo o w1 :=
 ⟨h.p.tookP0 hk hc hF, hc.at h.b h.n1, fun hm => by rcases hF _ hm with e | e; exact h.n1 e; have := at_lt h.b; omega, h.n2⟩
theorem Plb.tookR1 (h : Plb w0 bx F B G F2 B2 c KN G2 vs ls sl vt st xo o w) (hk : GrAt w1 F' B2' c (KN + 1) k2) (hc : Chg F2 w w1) (hF : ∀ x ∈ F', x ∈ F2 ∨ w.heap.size ≤ x) : Plb w0 bx F B G F' B2' c (KN + 1) k2 vs ls sl vt st xo o w1 :=
 ⟨h.p.tookR0 hk hc hF, hc.at h.b h.n2, h.n1, fun hm => by rcases hF _ hm with e | e; exact h.n2 e; have := at_lt h.b; omega⟩
end
theorem tp_of {F : List Nat} {B : GBl} {G GT : Gt} {g : Nat} {m : Mg} {now k : Int} (hg : B.g = g) (ht : G.take m now = (k, GT)) (u : World) (h : GtAt u F B G) :
  Calls Tryz.prog 20 #[.pointer (some ⟨g, 0, none⟩), mg m, .int .i64 now] u (LeavesG u F B (k, GT)) := by
 subst hg; rw [← ht]; exact gtake_any m now u h
theorem tr_of {F : List Nat} {B : RBl} {c : Conf} {KN : Nat} {G GT : Gt} {g : Nat} {m : Mg} {now k : Int} (hg : B.g = g) (ht : G.take m now = (k, GT)) (hK : KN ≤ 999999) (u : World) (h : GrAt u F B c KN G) :
  Calls Tryz.prog 21 #[.pointer (some ⟨g, 0, none⟩), mg m, .int .i64 now] u (LeavesGr u F B c KN (k, GT)) := by
 subst hg; rw [← ht]; exact rtake_any m now u h hK
structure Ends (W : World) (g r : Nat) (j M : Nat) (a o gb h8 rr gn sn rp ps ra ro : Nat) (x1 x2 x3 x4 x5 x6 : Int) (cr cp : Nat) : Prop where
 ring : ∀ n, Calls Tryz.prog 22 #[.pointer (some ⟨g, 0, none⟩)] (W.drewN n) fun e w' => e = .returned (.pointer (some ⟨gb, 0, none⟩)) ∧ W.drewN n = w'
 now : ∀ n, Calls Tryz.prog 23 #[.pointer (some ⟨g, 0, none⟩), .int .i64 (j : Int)] (W.drewN n) fun e w' => e = .returned (.pointer (some ⟨a, 0, none⟩)) ∧ ∃ m, w' = (W.drewN n).drewN m
 old : ∀ n, Calls Tryz.prog 24 #[.pointer (some ⟨g, 0, none⟩), .int .i64 (j : Int)] (W.drewN n) fun e w' => e = .returned (.pointer (some ⟨o, 0, none⟩)) ∧ ∃ m, w' = (W.drewN n).drewN m
 gen : ∀ n, Calls Tryz.prog 25 #[.pointer (some ⟨gb, 0, none⟩), .int .i64 (j : Int)] (W.drewN n) fun e w' => e = .returned (.int .i64 x1) ∧ W.drewN n = w'
 since : ∀ n, Calls Tryz.prog 26 #[.pointer (some ⟨gb, 0, none⟩), .int .i64 (j : Int)] (W.drewN n) fun e w' => e = .returned (.int .i64 x2) ∧ W.drewN n = w'
 topA : ∀ n, Calls Tryz.prog 27 #[.pointer (some ⟨a, 0, none⟩)] (W.drewN n) fun e w' => e = .returned (.int .i64 x3) ∧ W.drewN n = w'
 bitA : ∀ n, Calls Tryz.prog 28 #[.pointer (some ⟨a, 0, none⟩)] (W.drewN n) fun e w' => e = .returned (.int .u64 x4) ∧ W.drewN n = w'
 topO : ∀ n, Calls Tryz.prog 27 #[.pointer (some ⟨o, 0, none⟩)] (W.drewN n) fun e w' => e = .returned (.int .i64 x5) ∧ W.drewN n = w'
 bitO : ∀ n, Calls Tryz.prog 28 #[.pointer (some ⟨o, 0, none⟩)] (W.drewN n) fun e w' => e = .returned (.int .u64 x6) ∧ W.drewN n = w'
 bitR : ∀ n, Calls Tryz.prog 29 #[.pointer (some ⟨ra, 0, none⟩)] (W.drewN n) fun e w' => e = .returned (.int .u64 x4) ∧ W.drewN n = w'
 bitQ : ∀ n, Calls Tryz.prog 29 #[.pointer (some ⟨ro, 0, none⟩)] (W.drewN n) fun e w' => e = .returned (.int .u64 x6) ∧ W.drewN n = w'
 t26 : W.cell? ⟨r, 26, none⟩ = some (.pointer (some ⟨rr, 0, none⟩))
 t27 : W.cell? ⟨r, 27, none⟩ = some (.slice (some ⟨rp, 0, none⟩) M cr)
 t28 : W.cell? ⟨r, 28, none⟩ = some (.slice (some ⟨ps, 0, none⟩) M cp)
 r2 : W.cell? ⟨rr, 2, none⟩ = some (.slice (some ⟨gn, 0, none⟩) M M)
 r3 : W.cell? ⟨rr, 3, none⟩ = some (.slice (some ⟨sn, 0, none⟩) M M)
 cg : W.cell? ⟨gn, j, none⟩ = some (.int .i64 x1)
 cs : W.cell? ⟨sn, j, none⟩ = some (.int .i64 x2)
 ca : W.cell? ⟨rp, j, none⟩ = some (.pointer (some ⟨ra, 0, none⟩))
 co : W.cell? ⟨ps, j, none⟩ = some (.pointer (some ⟨ro, 0, none⟩))
 ta : W.cell? ⟨ra, 1, none⟩ = some (.int .i64 x3)
 tz : W.cell? ⟨ro, 1, none⟩ = some (.int .i64 x5)
 lr : M ≤ cr
 lp : M ≤ cp
theorem ends_of {F F2 : List Nat} {B : GBl} {B2 : RBl} {c : Conf} {K j M : Nat} {G : Gt} {W : World} (k : GtAt W F B G) (r : GrAt W F2 B2 c K G) (hK : K ≤ 1000000) (hM : c.n = (M : Int)) (hj : j < M) :
  Ends W B.g B2.g j M (B.A j) (B.O j) B.rb B.hb B2.r B2.gn B2.sn B2.rp B2.ps (B2.A j) (B2.O j) (G.r.gen j) (G.r.since j) (G.now j).top (q (G.now j).bits) (G.old j).top (q (G.old j).bits) B2.cr B2.cp := by
 have hn : G.r.n = M := by have := r.cn; omega
 have hi : j < G.r.n := by omega
 have D := fun n => k.grown (gb_drewQ W n)
 have E := fun n => r.grown (gb_drewQ W n)
 have T := r.tops; have U := r.ring.tops; have V := r.ring.cells hi; have X := r.cells hi
 rw [hn] at T U
 have c1 := r.c1; have c2 := r.c2
 rw [hn] at c1 c2
 exact ⟨fun n => gring_any _ (D n), fun n => greplay_q j _ (D n) hi, fun n => gold_q j _ (D n) hi, fun n => rgen_in j _ (D n).ring hi, fun n => rsince_in j _ (D n).ring hi,
  fun n => ptop_any _ ((D n).now j hi), fun n => pbits_any _ ((D n).now j hi), fun n => ptop_any _ ((D n).old j hi), fun n => pbits_any _ ((D n).old j hi),
  fun n => qbits_any _ ((E n).now j hi) hK, fun n => qbits_any _ ((E n).old j hi) hK,
  T.2.2.2.2.1, T.2.2.2.2.2.1, T.2.2.2.2.2.2, U.2.2.1, U.2.2.2, V.1, V.2.1, X.1, X.2.1, ((r.now j hi).tops).2.1, ((r.old j hi).tops).2.1, c1.1, c2.1⟩
end Go.Proofs.YtgpdcapnnejdeaaGreat
end
