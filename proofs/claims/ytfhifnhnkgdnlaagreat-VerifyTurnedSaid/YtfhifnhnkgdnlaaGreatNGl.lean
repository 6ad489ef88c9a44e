/-
  What the laws of a gate beside the document's begin with: the document's gate of a made configuration; what a walk keeps beside both gates. No condition.
-/
import Derived.Test.YtfhifnhnkgdnlaaGreatY10
import Derived.Test.YtfhifnhnkgdnlaaGreatNGm
import Derived.Test.YtfhifnhnkgdnlaaGreatNGe
set_option linter.unusedSimpArgs false
set_option linter.unusedVariables false
namespace Go.Proofs.YtfhifnhnkgdnlaaGreat
set_option maxRecDepth 100000
open Go.RowKit

theorem gnewr_fine {c : Conf} (h : Fine c) (w : World) : Calls Tryz.prog 11 #[cf c] w (MadeGr w c (gOf c)) := by
  have hn := h.n; have hf := h.f; have hg := h.grace; have hw := h.window; have hm := h.m; have hr := h.fresh
  exact gnewr_ok c (sdOf c) c.n.toNat c.grace.toNat c.window.toNat c.m.toNat c.fresh.toNat (fine_none h) (by omega) (by omega) (by omega) (by omega) (by omega) (seed_q h.seed)
    (by omega) (by omega) (by omega) (by omega) (by omega) (by omega) (by omega) (by omega) (by omega) (by omega) w
theorem rv_check {F : List Nat} {B : RBl} {c : Conf} {KN : Nat} {G : Gt} (s : ByteArray) (l : List UInt8) (hs : s.data.toList = l) (h1 : s.size ≤ 100000) (now : Int) (n0 : 0 ≤ now) (n1 : now ≤ 1099511627776) (m : Mg) (e : Int) (h : G.check l now nobody = (m, e)) (w : World) (k : GrAt w F B c KN G) (hK : KN ≤ 1000000) :
    Calls Tryz.prog 19 #[.pointer (some ⟨B.g, 0, none⟩), .string s, .int .i64 now, .slice none 0 0] w fun x w' => x = .returned (.tuple #[mg m, .int .i64 e]) ∧ w.grownBy w' none := by
  have := rcheck_any s l hs h1 now n0 n1 w k hK
  rw [h] at this
  exact this
/-- both gates of one model, blocks, bytes of the call's own -/
structure Kt (w0 : World) (F : List Nat) (B : GBl) (F2 : List Nat) (B2 : RBl) (c : Conf) (KN : Nat) (G : Gt) (bs : List (Nat × Obj)) (v : Value) (l : List UInt8) (w : World) : Prop where
  gt : GtAt w F B G
  gr : GrAt w F2 B2 c KN G
  g : w0.grownBy w none
  bl : ∀ x ∈ bs, w.heap[x.1]? = some x.2
  yl : OwnB 0 w v l
  ny : ∀ k, v.ownBlock = some k → k ∉ F ∧ k ∉ F2 ∧ w0.heap.size ≤ k
section
variable {w0 w w1 : World} {F F2 : List Nat} {B : GBl} {B2 : RBl} {c : Conf} {KN : Nat} {G : Gt} {b n : Nat} {s s' : Sl} {bs : List (Nat × Obj)} {o : Obj} {v : Value} {l : List UInt8} {x0 : Nat × Obj}
theorem Kt.grown (h : Kt w0 F B F2 B2 c KN G bs v l w) (hg : w.grownBy w1 none) : Kt w0 F B F2 B2 c KN G bs v l w1 :=
  ⟨h.gt.grown hg, h.gr.grown hg, gb_trans h.g hg (.inl rfl), fun x hx => at_grown (h.bl x hx) hg (by simp), h.yl.grown hg (by simp), h.ny⟩
theorem Kt.drew (h : Kt w0 F B F2 B2 c KN G bs v l w) : Kt w0 F B F2 B2 c KN G bs v l w.drew := h.grown (gb_drew (.refl w none))
theorem Kt.alloc (h : Kt w0 F B F2 B2 c KN G bs v l w) (o : Obj) : Kt w0 F B F2 B2 c KN G ((w.heap.size, o) :: bs) v l (w.alloc o) := by
  have k := h.grown (World.grownBy_alloc w o none)
  refine ⟨k.gt, k.gr, k.g, fun x hx => ?_, k.yl, k.ny⟩
  rcases List.mem_cons.1 hx with rfl | hx
  · exact at_new w o
  · exact k.bl x hx
theorem Kt.tail (h : Kt w0 F B F2 B2 c KN G (x0 :: bs) v l w) : Kt w0 F B F2 B2 c KN G bs v l w := ⟨h.gt, h.gr, h.g, fun x hx => h.bl x (List.mem_cons_of_mem _ hx), h.yl, h.ny⟩
theorem Kt.b0 (h : Kt w0 F B F2 B2 c KN G ((n, o) :: bs) v l w) : w.heap[n]? = some o := h.bl (n, o) (by simp)
theorem Kt.b1 (h : Kt w0 F B F2 B2 c KN G (x0 :: (n, o) :: bs) v l w) : w.heap[n]? = some o := h.tail.b0
/-- what the collector sealed, beside both gates: the collector is let go -/
theorem kt_start (h : Kv w0 F B G b s bs [] w) (gr : GrAt w F2 B2 c KN G) (hb : b ∉ F2) (ho : OwnB w.heap.size w1 v l) (hc : Chg [b] w w1) : Kt w0 F B F2 B2 c KN G [] v l w1 := by
  refine ⟨h.gt.chg hc (fun x hx e => h.bF (by rcases List.mem_singleton.1 e with rfl; exact hx)), gr.chg hc (fun x hx e => hb (by rcases List.mem_singleton.1 e with rfl; exact hx)),
    (Chg.trans (chg_grown h.g []) hc (fun x hx => by rcases List.mem_singleton.1 hx with rfl; exact .inr h.lb)).free (fun x hx => by cases hx), (fun x hx => by cases hx), ho.le (Nat.zero_le _), fun k hk => ?_⟩
  have := ho.blk hk
  exact ⟨fun e => by have := h.gt.lt _ e; omega, fun e => by have := gr.lt _ e; omega, by have := gb_size h.g; omega⟩
/-- a byte of the bytes at hand was stored -/
theorem Kt.byte (h : Kt w0 F B F2 B2 c KN G [] v l w) {k cp i : Nat} {x : UInt8} (hv : v = .slice (some ⟨k, 0, none⟩) l.length cp) (hi : i < l.length) : Kt w0 F B F2 B2 c KN G [] v (l.set i x) (w.setCell ⟨k, i, none⟩ (.int .u8 (x.toNat : Int))) := by
  obtain ⟨n1, n2, n3⟩ := h.ny k (by rw [hv]; rfl)
  have hc : Chg [k] w (w.setCell ⟨k, i, none⟩ (.int .u8 (x.toNat : Int))) := (chg_refl w [k]).set (.inl (by simp)) _
  refine ⟨h.gt.chg hc (fun y hy e => n1 (by rcases List.mem_singleton.1 e with rfl; exact hy)), h.gr.chg hc (fun y hy e => n2 (by rcases List.mem_singleton.1 e with rfl; exact hy)), gb_new h.g n3 _, (fun x hx => by cases hx), ?_, h.ny⟩
  have hy := h.yl
  subst hv
  obtain ⟨h0, e | ⟨g, cap, cur, e, hb, hh, h1, h2, h3, h4⟩⟩ := hy
  · cases e.1
  · cases e
    refine ⟨by simp, .inr ⟨_, _, cur.setIfInBounds i (.int .u8 (x.toNat : Int)), by simp, hb, at_set hh i _, by simpa using h1, h2, by simpa using h3, ?_⟩⟩
    rw [Array.toList_setIfInBounds, List.length_set, List.take_set, h4]
    apply List.ext_getElem?
    intro j
    simp [List.getElem?_set, bv]
end
end Go.Proofs.YtfhifnhnkgdnlaaGreat
