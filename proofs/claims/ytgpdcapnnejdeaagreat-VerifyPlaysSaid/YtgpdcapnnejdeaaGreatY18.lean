/-
  Contract: which key seals a message now, whatever the message: the model's answer. The condition: the gate lies there, the message may be sent, its collector is one of the gate's own. And 2 texts more that this one stands on. No condition.
-/
import Derived.Test.YtgpdcapnnejdeaaGreatNVk
import Derived.Test.YtgpdcapnnejdeaaGreatNVn
import Derived.Test.YtgpdcapnnejdeaaGreatNGr
import Derived.Test.YtgpdcapnnejdeaaGreatY21
import Derived.Deep.RegionHeld3
section
set_option linter.unusedSimpArgs false
set_option linter.unusedVariables false
namespace Go.Proofs.YtgpdcapnnejdeaaGreat
set_option maxRecDepth 100000
open Go.RowKit

def GBl.rp (B : GBl) (G : Gt) (m : Mg) : Nat := if sealedOf m = G.r.gen m.who.toNat then B.A m.who.toNat else B.O m.who.toNat
theorem gsealer_yes {F : List Nat} {B : GBl} {G : Gt} (m : Mg) (now : Int) (w : World) (K : GtAt w F B G) (hin : G.in m.who = true) (hM : mayOf m = true) (hm : G.may m now = true) :
  Calls Tryz.prog 56 #[.pointer (some ⟨B.g, 0, none⟩), mg m, .int .i64 now] w fun e w' => e = .returned (.tuple #[pair (G.key m).a (G.key m).b, .pointer (some ⟨B.rp G m, 0, none⟩), .int .i64 0]) ∧ w.grownBy w' none := by
 have h0 := of_decide_eq_true hin
 obtain ⟨_, _, hg, _⟩ := may_of hM
 obtain ⟨kind, who, gen, seq, epoch, value, metric⟩ := m
 obtain ⟨i, rfl⟩ := Int.eq_ofNat_of_zero_le h0.1
 have hi : i < G.r.n := by have := h0.2; simp at this; omega
 obtain ⟨m1, m2⟩ := of_decide_eq_true hm
 unfold Gt.key GBl.rp
 unfold sealedOf at m2 ⊢
 dsimp only [Int.toNat_natCast] at m1 m2 hg ⊢
 by_cases hk : kind = 2
 ·subst hk
  rw [if_pos rfl] at m2 ⊢
  have hs := m1 rfl
  rw [if_pos hs]
  exact gsealer_rot i now w K hi hg.1 hg.2 m2 hs
 ·rw [if_neg hk] at m2 ⊢
  by_cases hs : gen = G.r.gen i
  ·rw [if_pos hs]; exact gsealer_now i now w K hi hg.1 hg.2 hk m2 hs
  ·rw [if_neg hs]; exact gsealer_old i now w K hi hg.1 hg.2 hk m2 hs
theorem gsealer_none {F : List Nat} {B : GBl} {G : Gt} (m : Mg) (now : Int) (w : World) (K : GtAt w F B G) (hin : G.in m.who = true) (hM : mayOf m = true) (hm : G.may m now = false) :
  Calls Tryz.prog 56 #[.pointer (some ⟨B.g, 0, none⟩), mg m, .int .i64 now] w fun e w' => e = .returned (.tuple #[pair 0 0, .pointer none, .int .i64 4]) ∧ w.grownBy w' none := by
 have h0 := of_decide_eq_true hin
 obtain ⟨_, _, hg, _⟩ := may_of hM
 obtain ⟨kind, who, gen, seq, epoch, value, metric⟩ := m
 obtain ⟨i, rfl⟩ := Int.eq_ofNat_of_zero_le h0.1
 have hi : i < G.r.n := by have := h0.2; simp at this; omega
 have hn := of_decide_eq_false hm
 unfold sealedOf at hn
 dsimp only [Int.toNat_natCast] at hn hg
 by_cases hk : kind = 2
 ·subst hk
  rw [if_pos rfl] at hn
  by_cases hs : gen - 1 = G.r.gen i
  ·exact gsealer_rno i now w K hi hg.1 hg.2 (fun h => hn ⟨fun _ => hs, h⟩) hs
  ·exact gsealer_rgen i now w K hi hg.1 hg.2 hs
 ·rw [if_neg hk] at hn
  exact gsealer_no i now w K hi hg.1 hg.2 hk (fun h => hn ⟨fun e => absurd e hk, h⟩)
end Go.Proofs.YtgpdcapnnejdeaaGreat
end
section
set_option linter.unusedSimpArgs false
set_option linter.unusedVariables false
namespace Go.Proofs.YtgpdcapnnejdeaaGreat
set_option maxRecDepth 100000
open Go.RowKit

theorem gnew_nil (c : Conf) (hM : ((st22 c).getD ⟨#[]⟩).toList.isEmpty = false) (w : World) :
  Calls Tryz.prog 10 #[cf c] w fun e w' => e = .returned (.pointer none) ∧ w.grownBy w' none := by
 have CM := hid (fun u => cmay_any c u)
 rw [hM] at CM
 have B0 := hid (boxc_new w c)
 clear hM
 go_enter Tryz.func10, Tryz.ntmps10
 go_wp2_with (refine wpList_conf B0.out.box rfl rfl rfl rfl ?_)
 refine (CM.out _).mono ?_
 rintro e w1 ⟨rfl, hg⟩
 have B1 := hid (B0.out.grown hg); clear hg B0 CM
 go_wp2_with fail
 go_ret
 exact ⟨rfl, B1.out.g⟩
end Go.Proofs.YtgpdcapnnejdeaaGreat
end
section
set_option linter.unusedSimpArgs false
set_option linter.unusedVariables false
namespace Go.Proofs.YtgpdcapnnejdeaaGreat
set_option maxRecDepth 100000
open Go.RowKit

def pv (b : Nat) : Value := .pointer (some ⟨b, 0, none⟩)
def OwnP (w : World) (v : Value) (l : List Nat) : Prop := w.ownsRow 0 71 1 v l.length (l.map pv)
theorem OwnP.form {w : World} {v : Value} {l : List Nat} (h : OwnP w v l) : ∃ p c, v = .slice p l.length c := by
 obtain ⟨_, h | ⟨g, cap, cur, rfl, _⟩⟩ := h
 ·exact ⟨none, 0, by rw [h.1, h.2]⟩
 ·exact ⟨_, _, rfl⟩
theorem OwnP.obj {w : World} {v : Value} {l : List Nat} (h : OwnP w v l) {g : Nat} (hg : g ∈ ownL v) : ∃ cs : Array Value, w.heap[g]? = some (.cells cs 71) := by
 obtain ⟨_, h | ⟨g', cap, cur, rfl, hb, hh, _⟩⟩ := h
 ·rw [h.1] at hg; simp [ownL, Value.ownBlock] at hg
 ·simp [ownL, Value.ownBlock] at hg
  subst hg
  exact ⟨cur, hh⟩
theorem OwnP.full {w : World} {v : Value} {l : List Nat} (h : OwnP w v l) (hl : 0 < l.length) : ∃ g c cs, v = .slice (some ⟨g, 0, none⟩) l.length c ∧ l.length ≤ c ∧ c ≤ maxLen ∧ w.heap[g]? = some (.cells cs 71) ∧ ∀ j (hj : j < l.length), cs[j]? = some (pv l[j]) := by
 obtain ⟨_, h | ⟨g, cap, cur, rfl, _, hh, h1, h2, h3, h4⟩⟩ := h
 ·exact absurd hl (by rw [h.2]; simp)
 ·refine ⟨g, cap, cur, rfl, h1, h2, hh, fun j hj => ?_⟩
  have hc : cur.toList[j]? = (l.map pv)[j]? := by
   rw [← h4, Nat.mul_one, List.getElem?_take]; simp [hj]
  rw [← Array.getElem?_toList, hc]
  simp [List.getElem?_map, List.getElem?_eq_getElem hj]
theorem OwnP.chg {w w1 : World} {F : List Nat} {v : Value} {l : List Nat} (h : OwnP w v l) (hg : Chg F w w1) (hr : ∀ g, g ∈ ownL v → g ∉ F) : OwnP w1 v l := by
 obtain ⟨h0, h | ⟨g, cap, cur, rfl, hb, hh, h1⟩⟩ := h
 ·exact ⟨h0, .inl h⟩
 ·exact ⟨h0, .inr ⟨g, cap, cur, rfl, hb, hg.at hh (hr g (by simp [ownL, Value.ownBlock])), h1⟩⟩
theorem OwnP.nil (w : World) : OwnP w (.slice none 0 0) [] := ⟨rfl, .inl ⟨rfl, rfl⟩⟩
theorem info_rp : (Tryz.prog.info? 71).map (fun i => (i.zero, i.size, i.bytes)) = some (some (.pointer none), 1, 8) := by kernel_rfl
theorem run_append_ptr {w : World} {ty : TypeId} (v : Value) (l : List Nat) (hown : OwnP w v l) (g n : Nat) (hr : w.cell? ⟨g, 0, none⟩ = some (pv n)) (hlen : l.length + 1 ≤ 1000000) :
  ∃ v' w', (Builtin.append_ #[64, 64] ty #[v, .slice (some ⟨g, 0, none⟩) 1 1]).run Tryz.prog w = .ok v' w' ∧ OwnP w' v' (l ++ [n]) ∧ w.grownBy w' v.ownBlock ∧ (v'.ownBlock = v.ownBlock ∨ v'.ownBlock = some w.heap.size) := by
 obtain ⟨i, hi, hz0, hz1, hz2⟩ := info_parts info_rp
 obtain ⟨v', w', h0, h1, h2, _, h3⟩ := run_append_own_at (P := Tryz.prog) w 0 64 ty 71 i (.pointer none) 1 8 Tryz.underlying64 hi hz0 hz1 hz2 rfl (by omega) v l.length (l.map pv) hown ⟨g, 0, none⟩ 1 1 [pv n] (by simp)
  (fun j y hj => by
   cases j with
   | zero => cases hj; exact hr
   | succ j => cases hj)
  (fun y hy => by simp at hy; subst hy; rfl)
  (by unfold maxLen; omega) (by omega) (Nat.zero_le _)
 exact ⟨v', w', h0, by unfold OwnP; rw [List.length_append, List.map_append]; exact h1, h2, h3⟩
theorem wp_append_ptr {w : World} {o : Oper} {a : Act} {K : Act → World → Prop} {Q : Exit → Act → World → Prop} (s x : Operand)
  (ho : o.op = .call { callee := .builtin .append, args := #[s, x], argTypes := #[64, 64] })
  (v : Value) (l : List Nat) (hs : a.eval s = v) (hown : OwnP w v l) (g n : Nat) (hx : a.eval x = .slice (some ⟨g, 0, none⟩) 1 1) (hr : w.cell? ⟨g, 0, none⟩ = some (pv n)) (hlen : l.length + 1 ≤ 1000000)
  (h : ∀ v' w', OwnP w' v' (l ++ [n]) → w.grownBy w' v.ownBlock → (v'.ownBlock = v.ownBlock ∨ v'.ownBlock = some w.heap.size) → K (a.put o.dst v') w') :
  Oper.wp Tryz.prog o a w K Q := by
 obtain ⟨v', w', hrun, h1, h2, h3⟩ := run_append_ptr (ty := o.type) v l hown g n hr hlen
 unfold Oper.wp execOp
 simp only [ho, resolve, invoke, builtin, Sem.run_bind, Sem.run_pure, Result.andThen_ok, List.map_toArray, List.map_cons, List.map_nil, hs, hx, hrun]
 exact h v' w' h1 h2 h3

@[reducible] def newCells (c : Conf) (r : Nat) (tR tP : Value) : Array Value := #[.int .i64 c.n, .int .i64 c.f, .int .i64 c.m, .int .i64 c.quorum, .int .i64 c.fresh, .int .i64 c.grace, .int .i64 c.window, .int .i64 c.t0, .int .i64 c.t1, .int .i64 c.t2, .int .i64 c.t3, .int .i64 c.tol, .int .i64 c.min, .int .i64 c.max, .int .i64 c.calmup, .int .i64 c.calmdown, .int .i64 c.podsup, .int .i64 c.pctup, .int .i64 c.podsdown, .int .i64 c.pctdown, .int .i64 c.period, .int .i64 c.far, .int .i64 c.strikes, .int .i64 c.probe, .int .i64 c.sectors, .int .u64 c.seed, .pointer (some ⟨r, 0, none⟩), tR, tP]
structure Nr (w0 : World) (bx gb r gn sn : Nat) (c : Conf) (sd : BitVec 64) (n grace win : Nat) (tR tP vR vP : Value) (lR lP : List Nat) (w : World) : Prop where
 box : w.heap[bx]? = some (.cells c.cells 27)
 top : w.heap[gb]? = some (.cells (newCells c r tR tP) 66)
 ring : RfAt w r gn sn (.new sd n grace)
 oR : OwnP w vR lR
 oP : OwnP w vP lP
 dj : Dj (ownL vR) (ownL vP)
 rep : ∀ a ∈ lR ++ lP, RqAt w a (.slice none 0 0) 0 (.new win)
 nd : (lR ++ lP).Nodup
 lo : w0.heap.size ≤ gb ∧ w0.heap.size ≤ r ∧ w0.heap.size ≤ gn ∧ w0.heap.size ≤ sn
 lv : ∀ k ∈ ownL vR ++ ownL vP, w0.heap.size ≤ k
 lr : ∀ a ∈ lR ++ lP, w0.heap.size ≤ a
 g : w0.grownBy w none
section
variable {w0 w w1 : World} {bx gb r gn sn : Nat} {c : Conf} {sd : BitVec 64} {n grace win nb : Nat} {tR tP vR vP v' : Value} {lR lP : List Nat}
theorem RfAt.types {b g s : Nat} {rr : Rg} {k : Nat} {cs : Array Value} (H : RfAt w b g s rr) (hk : w.heap[k]? = some (.cells cs 71)) : b ≠ k ∧ g ≠ k ∧ s ≠ k := by
 obtain ⟨gs, g1, _⟩ := H.gens
 obtain ⟨ss, s1, _⟩ := H.sinces
 exact ⟨obj_ne H.top hk (by decide), obj_ne g1 hk (by decide), obj_ne s1 hk (by decide)⟩
theorem Nr.grown (h : Nr w0 bx gb r gn sn c sd n grace win tR tP vR vP lR lP w) (hg : w.grownBy w1 none) : Nr w0 bx gb r gn sn c sd n grace win tR tP vR vP lR lP w1 :=
 ⟨at_grown h.box hg (by simp), at_grown h.top hg (by simp), h.ring.grown hg, h.oR.chg (chg_grown hg []) (by simp), h.oP.chg (chg_grown hg []) (by simp), h.dj, fun a ha => (h.rep a ha).grown hg, h.nd, h.lo, h.lv, h.lr, gb_trans h.g hg (.inl rfl)⟩
theorem Nr.drew (h : Nr w0 bx gb r gn sn c sd n grace win tR tP vR vP lR lP w) : Nr w0 bx gb r gn sn c sd n grace win tR tP vR vP lR lP w.drew := h.grown (gb_drew (.refl w none))
theorem Nr.stored (h : Nr w0 bx gb r gn sn c sd n grace win tR tP vR vP lR lP w) {tR' tP' : Value} (hc : Chg [gb] w w1) (ht : w1.heap[gb]? = some (.cells (newCells c r tR' tP') 66)) : Nr w0 bx gb r gn sn c sd n grace win tR' tP' vR vP lR lP w1 := by
 have e1 : bx ≠ gb := obj_ne h.box h.top (by decide)
 obtain ⟨gs, g1, _⟩ := h.ring.gens
 obtain ⟨ss, s1, _⟩ := h.ring.sinces
 have e2 : r ≠ gb := obj_ne h.ring.top h.top (by decide)
 have e3 : gn ≠ gb := obj_ne g1 h.top (by decide)
 have e4 : sn ≠ gb := obj_ne s1 h.top (by decide)
 refine ⟨hc.at h.box (by simpa using e1), ht, h.ring.chg hc (by simpa using e2) (by simpa using e3) (by simpa using e4), h.oR.chg hc (fun g hg => ?_), h.oP.chg hc (fun g hg => ?_), h.dj, fun a ha => (h.rep a ha).chg hc (by simpa using obj_ne (h.rep a ha).top h.top (by decide)) (fun g hg => by simp [ownL, Value.ownBlock] at hg), h.nd, h.lo, h.lv, h.lr,
  (Chg.trans (chg_grown h.g []) hc (fun x hx => by rcases List.mem_singleton.1 hx with rfl; exact .inr h.lo.1)).free (fun x hx => by cases hx)⟩
 ·obtain ⟨cs, e⟩ := h.oR.obj hg; simpa using obj_ne e h.top (by decide)
 ·obtain ⟨cs, e⟩ := h.oP.obj hg; simpa using obj_ne e h.top (by decide)
theorem Nr.core (h : Nr w0 bx gb r gn sn c sd n grace win tR tP vR vP lR lP w) {H : List Nat} (hc : Chg H w w1) (hH : ∀ k ∈ H, ∃ cs : Array Value, w.heap[k]? = some (.cells cs 71)) (hl : ∀ k ∈ H, w0.heap.size ≤ k) :
  w1.heap[bx]? = some (.cells c.cells 27) ∧ w1.heap[gb]? = some (.cells (newCells c r tR tP) 66) ∧ RfAt w1 r gn sn (.new sd n grace) ∧ (∀ a ∈ lR ++ lP, RqAt w1 a (.slice none 0 0) 0 (.new win)) ∧ w0.grownBy w1 none := by
 refine ⟨hc.at h.box (fun hm => ?_), hc.at h.top (fun hm => ?_), h.ring.chg hc (fun hm => ?_) (fun hm => ?_) (fun hm => ?_), fun a ha => (h.rep a ha).chg hc (fun hm => ?_) (fun g hg => by simp [ownL, Value.ownBlock] at hg), (Chg.trans (chg_grown h.g []) hc (fun x hx => .inr (hl x hx))).free (fun x hx => by cases hx)⟩
 ·obtain ⟨cs, e⟩ := hH _ hm; exact obj_ne h.box e (by decide) rfl
 ·obtain ⟨cs, e⟩ := hH _ hm; exact obj_ne h.top e (by decide) rfl
 ·obtain ⟨cs, e⟩ := hH _ hm; exact (h.ring.types e).1 rfl
 ·obtain ⟨cs, e⟩ := hH _ hm; exact (h.ring.types e).2.1 rfl
 ·obtain ⟨cs, e⟩ := hH _ hm; exact (h.ring.types e).2.2 rfl
 ·obtain ⟨cs, e⟩ := hH _ hm; exact obj_ne (h.rep a ha).top e (by decide) rfl
theorem Nr.appR (h : Nr w0 bx gb r gn sn c sd n grace win tR tP vR vP lR lP w) (o : OwnP w1 v' (lR ++ [nb])) (hg : w.grownBy w1 vR.ownBlock) (ob : v'.ownBlock = vR.ownBlock ∨ v'.ownBlock = some w.heap.size) (hp : RqAt w nb (.slice none 0 0) 0 (.new win)) (hn : nb ∉ lR ++ lP) (hz : w0.heap.size ≤ nb) :
  Nr w0 bx gb r gn sn c sd n grace win tR tP v' vP (lR ++ [nb]) lP w1 := by
 have hc := chg_own hg
 obtain ⟨k1, k2, k3, k4, k5⟩ := h.core hc (fun k hk => h.oR.obj hk) (fun k hk => h.lv k (List.mem_append_left _ hk))
 have hlt : ∀ k ∈ ownL vP, k < w.heap.size := fun k hk => by obtain ⟨cs, e⟩ := h.oP.obj hk; exact at_lt e
 have hv : ∀ k ∈ ownL v', k ∈ ownL vR ∨ k = w.heap.size := ownL_of ob
 have hq : RqAt w1 nb (.slice none 0 0) 0 (.new win) := hp.chg hc (fun hm => by obtain ⟨cs, e⟩ := h.oR.obj hm; exact obj_ne hp.top e (by decide) rfl) (fun g hg => by simp [ownL, Value.ownBlock] at hg)
 refine ⟨k1, k2, k3, o, h.oP.chg hc (fun k hk hm => h.dj k hm hk), fun k hk hm => ?_, fun a ha => ?_, ?_, h.lo, fun k hk => ?_, fun a ha => ?_, k5⟩
 ·rcases hv k hk with e | e
  ·exact h.dj k e hm
  ·have := hlt k hm; omega
 ·simp only [List.mem_append, List.mem_singleton] at ha
  rcases ha with (ha | rfl) | ha
  ·exact k4 a (List.mem_append_left _ ha)
  ·exact hq
  ·exact k4 a (List.mem_append_right _ ha)
 ·have hnd := h.nd
  simp only [List.nodup_append, List.mem_append, List.mem_singleton, not_or] at hnd hn ⊢
  refine ⟨⟨hnd.1, by simp, fun a ha b hb e => hn.1 (by subst hb; subst e; exact ha)⟩, hnd.2.1, fun a ha b hb e => ?_⟩
  rcases ha with ha | rfl
  ·exact hnd.2.2 a ha b hb e
  ·exact hn.2 (e ▸ hb)
 ·rcases List.mem_append.1 hk with hk | hk
  ·rcases hv k hk with e | e
   ·exact h.lv k (List.mem_append_left _ e)
   ·have := gb_size h.g; omega
  ·exact h.lv k (List.mem_append_right _ hk)
 ·simp only [List.mem_append, List.mem_singleton] at ha
  rcases ha with (ha | rfl) | ha
  ·exact h.lr a (List.mem_append_left _ ha)
  ·exact hz
  ·exact h.lr a (List.mem_append_right _ ha)
theorem Nr.appP (h : Nr w0 bx gb r gn sn c sd n grace win tR tP vR vP lR lP w) (o : OwnP w1 v' (lP ++ [nb])) (hg : w.grownBy w1 vP.ownBlock) (ob : v'.ownBlock = vP.ownBlock ∨ v'.ownBlock = some w.heap.size) (hp : RqAt w nb (.slice none 0 0) 0 (.new win)) (hn : nb ∉ lR ++ lP) (hz : w0.heap.size ≤ nb) :
  Nr w0 bx gb r gn sn c sd n grace win tR tP vR v' lR (lP ++ [nb]) w1 := by
 have hc := chg_own hg
 obtain ⟨k1, k2, k3, k4, k5⟩ := h.core hc (fun k hk => h.oP.obj hk) (fun k hk => h.lv k (List.mem_append_right _ hk))
 have hlt : ∀ k ∈ ownL vR, k < w.heap.size := fun k hk => by obtain ⟨cs, e⟩ := h.oR.obj hk; exact at_lt e
 have hv : ∀ k ∈ ownL v', k ∈ ownL vP ∨ k = w.heap.size := ownL_of ob
 have hq : RqAt w1 nb (.slice none 0 0) 0 (.new win) := hp.chg hc (fun hm => by obtain ⟨cs, e⟩ := h.oP.obj hm; exact obj_ne hp.top e (by decide) rfl) (fun g hg => by simp [ownL, Value.ownBlock] at hg)
 refine ⟨k1, k2, k3, h.oR.chg hc (fun k hk hm => h.dj k hk hm), o, fun k hk hm => ?_, fun a ha => ?_, ?_, h.lo, fun k hk => ?_, fun a ha => ?_, k5⟩
 ·rcases hv k hm with e | e
  ·exact h.dj k hk e
  ·have := hlt k hk; omega
 ·simp only [List.mem_append, List.mem_singleton] at ha
  rcases ha with ha | ha | rfl
  ·exact k4 a (List.mem_append_left _ ha)
  ·exact k4 a (List.mem_append_right _ ha)
  ·exact hq
 ·have hnd := h.nd
  simp only [List.nodup_append, List.mem_append, List.mem_singleton, not_or] at hnd hn ⊢
  refine ⟨hnd.1, ⟨hnd.2.1, by simp, fun a ha b hb e => hn.2 (by subst hb; subst e; exact ha)⟩, fun a ha b hb e => ?_⟩
  rcases hb with hb | rfl
  ·exact hnd.2.2 a ha b hb e
  ·exact hn.1 (e ▸ ha)
 ·rcases List.mem_append.1 hk with hk | hk
  ·exact h.lv k (List.mem_append_left _ hk)
  ·rcases hv k hk with e | e
   ·exact h.lv k (List.mem_append_right _ e)
   ·have := gb_size h.g; omega
 ·simp only [List.mem_append, List.mem_singleton] at ha
  rcases ha with ha | ha | rfl
  ·exact h.lr a (List.mem_append_left _ ha)
  ·exact h.lr a (List.mem_append_right _ ha)
  ·exact hz
theorem Nr.fresh (h : Nr w0 bx gb r gn sn c sd n grace win tR tP vR vP lR lP w) {nb : Nat} (hn : w.heap.size ≤ nb) : nb ∉ lR ++ lP := fun hm => by have := (h.rep nb hm).lt.1; omega
end
end Go.Proofs.YtgpdcapnnejdeaaGreat
end
