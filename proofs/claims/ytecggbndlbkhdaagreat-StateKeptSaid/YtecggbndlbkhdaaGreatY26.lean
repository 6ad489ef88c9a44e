/-
  All that is known, as bytes: which bytes they are; what is read back of bytes; both are one. No condition. Nothing of the program's functions is named here.
  Contract: the law's own examples: the program tells what the document says of a few envelopes that come to a gate. No condition.
  What the laws of a gate begin with: a made configuration, a gate of it, a collector. No condition.
  All that is known, as a model: the one that nothing was done to, of a configuration; those that are heard are heard twice alike. No condition. Nothing of the program's functions is named here.
  Contracts: a new table; the samples of an epoch's metric. The condition: the table lies there.
  Where the library's contract for slices.SortFunc finds its functions and types in this program. No condition.
  slices.SortFunc by table.compare, slices.SortedFunc of maps.Keys: the places of the map's samples in their order. No condition.
-/
import Derived.Test.YtecggbndlbkhdaaGreatJ0
import Derived.Test.YtecggbndlbkhdaaGreatY9
import Derived.Test.YtecggbndlbkhdaaGreatY21
import Derived.Test.YtecggbndlbkhdaaGreatY22
import Derived.Test.YtecggbndlbkhdaaGreatY16
import Derived.Test.YtecggbndlbkhdaaGreatY24
import Derived.Test.YtecggbndlbkhdaaGreatY5
import Derived.Test.YtecggbndlbkhdaaGreatY6
import Derived.Deep.CutRange
import Derived.Test.YtecggbndlbkhdaaGreatY4
import Derived.Test.YtecggbndlbkhdaaGreatY20
import Derived.Test.YtecggbndlbkhdaaGreatY19
import Derived.Test.YtecggbndlbkhdaaGreatY7
import Derived.Shelf.SlSortCmp.NoneTotal
import Derived.Shelf.SlGeneric
import Derived.Test.YtecggbndlbkhdaaGreatRows
import Derived.Test.YtecggbndlbkhdaaGreatY27
import Derived.Test.YtecggbndlbkhdaaGreatY1
section
set_option linter.unusedSimpArgs false
set_option linter.unusedVariables false
namespace Go.Proofs.YtecggbndlbkhdaaGreat
set_option maxRecDepth 100000
open Go.RowKit

/-- the first k numbers that stand in bytes -/
def wsOf (l : List UInt8) (k : Nat) : List Nat := (List.range k).map fun i => (wordAt l (8 * i) 8).toNat
theorem wsOf_len (l : List UInt8) (k : Nat) : (wsOf l k).length = k := by unfold wsOf; rw [List.length_map, List.length_range]
theorem wsOf_get (l : List UInt8) {k i : Nat} (h : i < k) : (wsOf l k)[i]? = some (wordAt l (8 * i) 8).toNat := by
  unfold wsOf
  rw [List.getElem?_map, List.getElem?_range h]; rfl
theorem wb_back {l : List UInt8} {k : Nat} (h : l.length = 8 * k) : wb (wsOf l k) = l := by
  have e : (wsOf l k).map (BitVec.ofNat 64) = (List.range k).map fun i => wordAt l (8 * i) 8 := by
    unfold wsOf
    rw [List.map_map]
    refine List.map_congr_left fun i _ => ?_
    show BitVec.ofNat 64 (wordAt l (8 * i) 8).toNat = _
    rw [BitVec.ofNat_toNat, BitVec.setWidth_eq]
  have hl : (wb (wsOf l k)).length = l.length := by rw [wb_length, wsOf_len, h]
  refine List.ext_getElem hl fun j h1 h2 => ?_
  rw [← byteAt_eq h1, ← byteAt_eq h2]
  have hj : j = 8 * (j / 8) + j % 8 := by omega
  have hk : j / 8 < k := by omega
  unfold wb
  rw [e, hj, putAll_byte _ _ _ (by rw [List.length_map, List.length_range]; exact hk) (by omega), List.getElem_map, List.getElem_range]
  exact word_byte _ _ _ (by omega)
theorem ws_back {ws : List Nat} (h : ∀ x ∈ ws, x < 18446744073709551616) : wsOf (wb ws) ws.length = ws := by
  refine List.ext_getElem (wsOf_len ..) fun j h1 h2 => ?_
  have : (wsOf (wb ws) ws.length)[j]? = some ws[j] := by
    rw [wsOf_get _ h2]
    have hw := word_at (ws.map (BitVec.ofNat 64)) j (by rw [List.length_map]; exact h2)
    rw [List.getElem_map] at hw
    unfold wb
    rw [hw, BitVec.toNat_ofNat, Nat.mod_eq_of_lt (h _ (List.getElem_mem h2))]
  rw [List.getElem?_eq_getElem h1] at this
  exact Option.some.inj this
/-- all numbers are of 64 bits -/
def Kd.Lt {α : Type} (K : Kd α) : Prop := ∀ a, K.In a → ∀ x ∈ K.ws a, x < 18446744073709551616
theorem lt_num {m : Nat} (h : m < 18446744073709551616) : (kNum m).Lt := fun a ha x hx => by
  have ha : a ≤ m := ha
  have : x = a := List.mem_singleton.1 hx
  omega
theorem lt_pair {α β : Type} {A : Kd α} {B : Kd β} (ha : A.Lt) (hb : B.Lt) : (kPair A B).Lt := fun a h x hx => by
  rcases List.mem_append.1 hx with hx | hx
  · exact ha _ h.1 x hx
  · exact hb _ h.2 x hx
theorem lt_map {α β : Type} {A : Kd α} {f : α → β} {g : β → α} {fg : ∀ b, f (g b) = b} {gf : ∀ a, g (f a) = a} (ha : A.Lt) : (kMap A f g fg gf).Lt := fun b h x hx => ha (g b) h x hx
theorem lt_vec {α : Type} {A : Kd α} (ha : A.Lt) (n : Nat) : (kVec A n).Lt := fun l h x hx => by
  obtain ⟨a, h1, h2⟩ := List.mem_flatMap.1 hx
  exact ha a (h.2 a h1) x h2
theorem lt_row {α : Type} {A : Kd α} (ha : A.Lt) {m : Nat} (hm : m < 18446744073709551616) : (kRow A m).Lt := fun l h x hx => by
  have h1 : l.length ≤ m := h.1
  rcases List.mem_cons.1 hx with rfl | hx
  · omega
  · obtain ⟨a, h1, h2⟩ := List.mem_flatMap.1 hx
    exact ha a (h.2 a h1) x h2
theorem lt_co : kCo.Lt := by unfold kCo; exact lt_map (by repeat (first | exact lt_num (by decide) | refine lt_pair ?_ ?_))
theorem lt_sa : kSa.Lt := by unfold kSa; exact lt_map (by repeat (first | exact lt_num (by decide) | refine lt_pair ?_ ?_))
theorem lt_de : kDe.Lt := by unfold kDe; exact lt_map (by repeat (first | exact lt_num (by decide) | refine lt_pair ?_ ?_))
theorem lt_fl (n : Nat) : (kFl n).Lt := by
  unfold kFl
  exact lt_map (lt_pair (lt_num (by decide)) (lt_pair (lt_vec lt_co _) (lt_pair (lt_row (lt_num (by decide)) (by decide)) (lt_pair (lt_row (lt_num (by decide)) (by decide)) (lt_pair (lt_num (by decide)) (lt_pair (lt_row lt_sa (by decide)) (lt_row lt_de (by decide))))))))
/-- a state's numbers -/
def Ste.ws (s : Ste) : List Nat := (kFl s.p.n).ws s.fl
/-- a state's bytes -/
def Ste.bytes (s : Ste) : List UInt8 := wb s.ws
/-- the state of some bytes, if they are one's -/
noncomputable def Ste.read (s0 : Ste) (l : List UInt8) : Option Ste := open Classical in
  if l.length % 8 = 0 then (parse s0.p.n (wsOf l (l.length / 8))).bind fun f => if Valid s0 f then some (s0.set f) else none else none
section
variable {s0 s t : Ste} {l : List UInt8}
theorem Ste.read_iff : s0.read l = some s ↔ ∃ f, l = wb ((kFl s0.p.n).ws f) ∧ FlIn s0.p.n f ∧ Valid s0 f ∧ s = s0.set f := by
  unfold Ste.read
  constructor
  · intro h
    split at h
    · next h8 =>
      obtain ⟨f, hp, h⟩ := Option.bind_eq_some_iff.1 h
      split at h
      · next hv =>
        cases h
        obtain ⟨e, hi⟩ := (parse_iff ..).1 hp
        exact ⟨f, by rw [← e, wb_back (by omega)], kFl_in.1 hi, hv, rfl⟩
      · cases h
    · cases h
  · rintro ⟨f, rfl, hi, hv, rfl⟩
    have hl := wb_length ((kFl s0.p.n).ws f)
    rw [if_pos (by omega)]
    have e : (wb ((kFl s0.p.n).ws f)).length / 8 = ((kFl s0.p.n).ws f).length := by omega
    rw [e, ws_back (lt_fl _ _ (kFl_in.2 hi)), (parse_iff ..).2 ⟨rfl, kFl_in.2 hi⟩]
    rw [Option.bind_some]
    rw [if_pos hv]
/-- it comes back from its bytes -/
theorem Ste.Ok.read (hb : Ste.Base s0) (h : Ste.Ok s0 s) : s0.read s.bytes = some s :=
  Ste.read_iff.2 ⟨s.fl, by unfold Ste.bytes Ste.ws; rw [h.p], Ste.fl_in h hb.fr hb.ok.lok.ca, Ste.valid h, (Ste.back h).symm⟩
/-- the same bytes: the same state -/
theorem Ste.Ok.same (hb : Ste.Base s0) (h : Ste.Ok s0 s) (h' : Ste.Ok s0 t) (e : s.bytes = t.bytes) : s = t := by
  have h1 := h.read hb
  rw [e, h'.read hb] at h1
  exact (Option.some.inj h1).symm
/-- where what stands in the numbers begins -/
theorem Ste.ws_eq (s : Ste) : s.ws = s.now.toNat :: (((List.range s.p.n).map s.co).flatMap kCo.ws ++ ((s.l.ca.l.length :: s.l.ca.l.map Int.toNat) ++ ((s.l.po.l.length :: s.l.po.l.map Int.toNat) ++ (s.l.n.toNat :: ((s.t.length :: (s.t.map saOf).flatMap kSa.ws) ++ (s.ds.length :: (s.ds.map deOf).flatMap kDe.ws)))))) := by
  have h := Fl.ws_eq s.fl
  have e : s.fl.ws = s.ws := by
    unfold Fl.ws Ste.ws
    have : s.fl.cs.length = s.p.n := by show ((List.range s.p.n).map s.co).length = _; rw [List.length_map, List.length_range]
    rw [this]
  rw [e] at h
  rw [h]
  simp [Ste.fl]
end
end Go.Proofs.YtecggbndlbkhdaaGreat
end
section
set_option linter.unusedSimpArgs false
set_option linter.unusedVariables false
namespace Go.Proofs.YtecggbndlbkhdaaGreat
set_option maxRecDepth 100000
open Go.RowKit

section
variable {P : Program} {ops : Array Oper} {rest : List Oper} {o : Oper} {a : Act} {w : World} {Q : Exit → Act → World → Prop} {ty : TypeId} {dst : Option Tmp} {cs : Array Value}
end
def nobody (_ : Int) : Bool := false
end Go.Proofs.YtecggbndlbkhdaaGreat
end
section
set_option linter.unusedSimpArgs false
set_option linter.unusedVariables false
namespace Go.Proofs.YtecggbndlbkhdaaGreat
set_option maxRecDepth 100000
open Go.RowKit

def sdOf (c : Conf) : BitVec 64 := BitVec.ofInt 64 c.seed
def gOf (c : Conf) : Gt := .new (sdOf c) c.n.toNat c.grace.toNat c.window.toNat c.m.toNat c.fresh.toNat
theorem seed_q {c : Conf} (h : 0 ≤ c.seed ∧ c.seed < 100000) : c.seed = q (sdOf c) := by
  unfold sdOf q
  rw [BitVec.toNat_ofInt]
  have := h.1; have := h.2
  omega
end Go.Proofs.YtecggbndlbkhdaaGreat
end
section
set_option linter.unusedSimpArgs false
set_option linter.unusedVariables false
namespace Go.Proofs.YtecggbndlbkhdaaGreat
set_option maxRecDepth 100000
open Go.RowKit

/-- the state that nothing was done to: of a configuration, with this Far in the place of its own -/
@[reducible] def steOf (c : Conf) (far : Int) (m u d : Nat) : Ste :=
  ⟨⟨c.n.toNat, c.m, c.f, c.quorum, c.fresh⟩, 0, gOf c, [], ⟨List.replicate c.n.toNat (false, 0), c.strikes, c.probe, far⟩, laOf c m u d c.min, []⟩
section
variable {c : Conf} {far : Int} {m u d : Nat}
theorem ste_base (h : Fine c) (hok : (laOf c m u d c.min).Ok) : Ste.Base (steOf c far m u d) := by
  have hf := h.f
  have hn := h.n
  have hm := h.m
  have hg := h.grace
  have hw := h.window
  have hfr := h.fresh
  have hs := h.strikes
  have hp := h.probe
  have hrp : ∀ i : Nat, (Rp.new c.window.toNat).Ok := fun _ => rp_new_ok (by omega) (by omega)
  have hlen : (List.replicate c.n.toNat ((false, 0) : Hd)).length = c.n.toNat := List.length_replicate
  have hrg : (Rg.new (sdOf c) c.n.toNat c.grace.toNat).Ok := rg_new_ok _ (by omega) (by omega) (by omega) (by omega)
  refine ⟨⟨rfl, Int.le_refl _, by show (0 : Int) ≤ _; decide, rfl, hrg, hrp, hrp, fun _ => rfl, fun _ => rfl, fun _ _ => ⟨rfl, rfl, rfl, rfl⟩, hlen, ⟨rfl, rfl, rfl⟩, ⟨by show c.strikes ≤ 100; omega, by show c.probe ≤ 100; omega⟩, ?_, rfl, hok, rfl, Srt.nil, ?_, ?_, ?_, by show 0 ≤ 64; decide⟩, by show c.fresh ≤ 8; omega, hrp, hrp⟩
  · intro x hx
    have e : x = (false, 0) := (List.mem_replicate.1 hx).2
    subst e
    exact ⟨Int.le_refl _, fun e => absurd (show false = true from e) (by decide), fun _ => by show 0 < c.strikes; omega⟩
  · intro x hx; cases hx
  · exact ⟨by show c.n.toNat ≤ 16; omega, by show c.m ≤ 4; omega⟩
  · intro x hx; cases hx
theorem ste_tie (h : Fine c) (hm : c.m = (m : Int)) (hm2 : m ≤ 4) : Ste.Tie (steOf c far m u d) := by
  have hf := h.f
  have hn := h.n
  have hm' := h.m
  have hw := h.window
  have hfr := h.fresh
  have hs := h.strikes
  have hp := h.probe
  refine ⟨rfl, ?_, ?_, fun _ => ⟨rfl, rfl⟩, ?_, ?_, ?_, ⟨hs.1, hp.1⟩, ?_⟩
  · show ((c.m.toNat : Nat) : Int) = c.m; omega
  · show ((c.fresh.toNat : Nat) : Int) = c.fresh; omega
  · show 1 ≤ c.window.toNat; omega
  · show c.window.toNat ≤ 64; omega
  · show 1 ≤ c.m; omega
  · show ((tgOf c m).length : Int) = c.m
    rw [tgOf_len c hm2, hm]
end
end Go.Proofs.YtecggbndlbkhdaaGreat
end
section
set_option linter.unusedSimpArgs false
set_option linter.unusedVariables false
namespace Go.Proofs.YtecggbndlbkhdaaGreat
set_option maxRecDepth 100000
open Go.RowKit

def MayNew (n m f : Int) : Prop := 1 ≤ n ∧ n ≤ 16 ∧ 1 ≤ m ∧ m ≤ 4 ∧ 1 ≤ f ∧ f ≤ 8
instance (n m f : Int) : Decidable (MayNew n m f) := by unfold MayNew; infer_instance
theorem new_yes (n m f : Int) (h : MayNew n m f) (w : World) : Calls Tryz.prog 58 #[.int .i64 n, .int .i64 m, .int .i64 f] w fun e w' => e = .returned (.pointer (some ⟨w.heap.size + 1, 0, none⟩)) ∧ TbAt n m f [] (w.heap.size + 1) w.heap.size w' ∧ w.grownBy w' none := by
  have hh := h
  unfold MayNew at h
  have HH := hid hh
  clear hh
  have hmm := @run_makeMap Tryz.prog
  have hw : IntKind.u64.wrap f = f := by simp only [IntKind.wrap_u64]; omega
  have h1 : ¬ n < 1 := by omega
  have h2 : ¬ 16 < n := by omega
  have h3 : ¬ m < 1 := by omega
  have h4 : ¬ 4 < m := by omega
  have h5 : ¬ f < 1 := by omega
  have h6 : ¬ 8 < f := by omega
  clear h
  go_enter Tryz.func58, Tryz.ntmps58
  go_wp2
  go_ret
  refine ⟨by simp, ⟨?_, ⟨.map [], ?_, MapIs.nil⟩, FineT.nil n, HH.out⟩, gb_alloc (gb_alloc (.refl w none) _) _⟩
  · have := at_new (w.alloc (.map #[] 0)) (.cells #[.int .i64 n, .int .i64 m, .int .u64 f, .map (some w.heap.size)] 230)
    rw [World.size_alloc] at this
    exact this
  · exact (World.ownsMap_made w _ _ _).alloc _
/-- what Of's walk keeps in a round -/
structure Ofk (w : World) (n m f : Int) (L : List Sm) (b mb pb : Nat) (q : Pc) (v : Value) (l : List Sm) (W : World) : Prop where
  tb : TbAt n m f L b mb W
  box : W.heap[pb]? = some (.cells #[.int .i64 q.1, .int .i64 q.2.1, .int .i64 q.2.2] 317)
  gr : w.grownBy W none
  own : OwnZ w.heap.size W v l
section
variable {w W W' : World} {n m f : Int} {L l : List Sm} {b mb pb : Nat} {q : Pc} {v : Value}
theorem Ofk.grown (h : Ofk w n m f L b mb pb q v l W) (hg : W.grownBy W' none) : Ofk w n m f L b mb pb q v l W' := ⟨h.tb.grown hg, at_grown h.box hg (by simp), gb_trans h.gr hg (.inl rfl), h.own.grown hg⟩
theorem Ofk.drew (h : Ofk w n m f L b mb pb q v l W) : Ofk w n m f L b mb pb q v l W.drew := ⟨h.tb.drew, h.box, gb_drew h.gr, h.own.drew⟩
theorem Ofk.smp (h : Ofk w n m f L b mb pb q v l W) : W.cell? ⟨pb, 0, none⟩ = some (.int .i64 q.1) ∧ W.cell? ⟨pb, 1, none⟩ = some (.int .i64 q.2.1) ∧ W.cell? ⟨pb, 2, none⟩ = some (.int .i64 q.2.2) := ⟨at_cell h.box 0, at_cell h.box 1, at_cell h.box 2⟩
end
set_option maxHeartbeats 1000000 in
theorem tof_any {n m f : Int} {L : List Sm} {b mb : Nat} {w : World} (h : TbAt n m f L b mb w) (hlen : L.length ≤ 100000) (e me : Int) (he : wf64 e) (hme : wf64 me) :
    Calls Tryz.prog 241 #[.pointer (some ⟨b, 0, none⟩), .int .i64 e, .int .i64 me] w fun x w' => ∃ v, x = .returned v ∧ OwnZ w.heap.size w' v (ofT L e me) ∧ w.grownBy w' none := by
  have HT := hid h
  have HLEN := hid hlen
  have HE := hid (And.intro he hme)
  obtain ⟨c0, c1, c2, c3⟩ := h.cells
  have hnm := h.nm
  obtain ⟨N, hN⟩ : ∃ N : Nat, n = (N : Int) := ⟨n.toNat, by omega⟩
  have HN := hid hN
  rw [hN] at c0
  have HNM := hid hnm
  have hN16 : N ≤ 16 := by omega
  clear h hlen he hme hnm hN
  go_enter Tryz.func241, Tryz.ntmps241
  go_wp2
  go_loopw [7, 18] (fun v i wr => ∃ (k : Nat) (v0 : Value), v = v0 ∧ k ≤ N ∧ i = .int .i64 (k : Int) ∧ OwnZ w.heap.size wr v0 (upT L e me k) ∧ w.grownBy wr none)
    (fun _ i _ => N - (intOf i).toNat)
  case atStart =>
    exact ⟨0, _, rfl, Nat.zero_le _, rfl, by rw [upT_zero HT.out.fine]; exact OwnZ.nil _ _, .refl _ _⟩
  case round =>
    obtain ⟨k, v, hv, hk, rfl, hown, hgr⟩ := hrel
    have hv' := hv.symm
    clear hv
    subst hv'
    have HOWN := hid hown
    have HGR := hid hgr
    obtain ⟨t0, t1, t2, t3⟩ := (HT.out.grown hgr).cells
    clear hown hgr
    by_cases hkn : k < N
    · have hkn' : (k : Int) < (N : Int) := by omega
      have hlt : k + 1 ≤ N := hkn
      have HK0 : Hid (Ofk w n m f L b mb wr.heap.size (e, me, (k : Int)) v (upT L e me k) (wr.alloc (.cells #[.int .i64 e, .int .i64 me, .int .i64 (k : Int)] 317))) :=
        ⟨(HT.out.grown HGR.out).alloc _, at_new _ _, gb_alloc HGR.out _, HOWN.out.grown (World.grownBy_alloc _ _ none)⟩
      by_cases hT : There L (e, me, (k : Int))
      · obtain ⟨y, hy⟩ : ∃ y, (⟨k, me, e, y⟩ : Sm) ∈ L := by
          obtain ⟨⟨a, y, e', v'⟩, hx, hp⟩ := hT
          simp only [Sm.pl, Prod.mk.injEq] at hp
          obtain ⟨rfl, rfl, rfl⟩ := hp
          exact ⟨v', hx⟩
        have HY := hid hy
        clear hy hT
        go_upto_region 8 with fail
        refine wp_region_held_drew (S := (fun w' => (Ofk w n m f L b mb wr.heap.size (e, me, (k : Int)) v (upT L e me k) w'))) (by kernel_rfl) HK0.out.drew (fun hHeld => ?_)
        try dsimp only at hHeld
        refine jU 0 hHeld ?_
        try simp only [jX, jD, jE, jF]
        refine jU 1 hHeld ?_
        try simp only [jX, jD, jE, jF]
        refine jU 2 hHeld ?_
        try simp only [jX, jD, jE, jF]
        refine' jT 3 rfl (by rfl) ?_ hHeld ?_
        rotate_left
        · (intro w hSw; (try dsimp only at hSw); have K := hSw; obtain ⟨t0, t1, t2, t3⟩ := K.tb.cells; go_simp; try with_reducible rfl)
        try simp only [jX, jD, jE, jF]
        refine' jT 4 rfl (by rfl) ?_ hHeld ?_
        rotate_left
        · (intro w hSw; (try dsimp only at hSw); have K := hSw; obtain ⟨e0, e1, e2⟩ := K.smp; go_simp; try with_reducible rfl)
        try simp only [jX, jD, jE, jF]
        refine' jT 5 rfl (by rfl) ?_ hHeld ?_
        rotate_left
        · (intro w hSw; (try dsimp only at hSw); (try simp only [jD, jE, jF]); refine exec_look (m := .tmp 29) (x := .tmp 30) (v := .tuple #[.int .i64 y, .bool true]) ?_ ?_ ?_ (hSw.tb.hit2 (s := ⟨k, me, e, y⟩) HY.out) <;> rfl)
        try simp only [jX, jD, jE, jF]
        refine jU 6 hHeld ?_
        try simp only [jX, jD, jE, jF]
        refine jU 7 hHeld ?_
        try simp only [jX, jD, jE, jF]
        refine jU 8 hHeld ?_
        try simp only [jX, jD, jE, jF]
        refine jU 9 hHeld ?_
        try simp only [jX, jD, jE, jF]
        refine jU 10 hHeld ?_
        try simp only [jX, jD, jE, jF]
        refine wpAnyH_done (by kernel_rfl) ?_ _
        have K := hHeld
        obtain ⟨e0, e1, e2⟩ := K.smp
        have HK1 := hid K
        clear K
        generalize hW1 : (wr.alloc (.cells #[.int .i64 e, .int .i64 me, .int .i64 (k : Int)] 317)).drew = W1 at *
        clear hW1
        go_wp2_with (first
          | (go_at_call 206; refine (sample_any e me (k : Int) y _).mono ?_; rintro e w2 ⟨rfl, hg2⟩; have HK2 := hid ((HK1.out.grown hg2).grown (World.grownBy_alloc w2 (.cells #[.int .i64 (k : Int), .int .i64 me, .int .i64 e, .int .i64 y] 91) none)); clear hg2)
          | (refine append_smp rfl _ _ rfl w.heap.size _ _ rfl HK2.out.own _ [⟨k, me, e, y⟩] rfl (smp_new _ ⟨k, me, e, y⟩) (by have := HLEN.out; have h2 : (upT L e me k).length ≤ L.length := List.length_filter_le _ _; simp only [List.length_cons, List.length_nil]; omega) HK2.out.gr.size ?_; intro v' w3 hown3 hg3 hat3; have HO3 := hid hown3; have HG3 := hid (gb_ownZ HK2.out.gr HK2.out.own (Nat.le_refl _) hg3); obtain ⟨p3, c3', rfl⟩ := hown3.form; clear hown3 hg3 hat3))
        go_roundw
        case rel => exact ⟨k + 1, _, rfl, hlt, by go_num, by rw [upT_hit HT.out.fine HY.out]; have h := HO3.out; simp only [List.length_append, List.length_cons, List.length_nil, Nat.zero_add] at h; exact h, HG3.out⟩
        case measure => simp [intOf]; omega
      · have HNT := hid hT
        clear hT
        have hfit : FitP (e, me, (k : Int)) := by
          refine ⟨HE.out.1, HE.out.2, ?_⟩
          show wf64 (k : Int)
          unfold wf64
          omega
        have HF := hid hfit
        clear hfit
        go_upto_region 8 with fail
        refine wp_region_held_drew (S := (fun w' => (Ofk w n m f L b mb wr.heap.size (e, me, (k : Int)) v (upT L e me k) w'))) (by kernel_rfl) HK0.out.drew (fun hHeld => ?_)
        try dsimp only at hHeld
        refine jU 0 hHeld ?_
        try simp only [jX, jD, jE, jF]
        refine jU 1 hHeld ?_
        try simp only [jX, jD, jE, jF]
        refine jU 2 hHeld ?_
        try simp only [jX, jD, jE, jF]
        refine' jT 3 rfl (by rfl) ?_ hHeld ?_
        rotate_left
        · (intro w hSw; (try dsimp only at hSw); have K := hSw; obtain ⟨t0, t1, t2, t3⟩ := K.tb.cells; go_simp; try with_reducible rfl)
        try simp only [jX, jD, jE, jF]
        refine' jT 4 rfl (by rfl) ?_ hHeld ?_
        rotate_left
        · (intro w hSw; (try dsimp only at hSw); have K := hSw; obtain ⟨e0, e1, e2⟩ := K.smp; go_simp; try with_reducible rfl)
        try simp only [jX, jD, jE, jF]
        refine' jT 5 rfl (by rfl) ?_ hHeld ?_
        rotate_left
        · (intro w hSw; (try dsimp only at hSw); (try simp only [jD, jE, jF]); refine exec_look (m := .tmp 29) (x := .tmp 30) (v := .tuple #[.int .i64 0, .bool false]) ?_ ?_ ?_ (hSw.tb.miss HF.out HNT.out) <;> rfl)
        try simp only [jX, jD, jE, jF]
        refine jU 6 hHeld ?_
        try simp only [jX, jD, jE, jF]
        refine jU 7 hHeld ?_
        try simp only [jX, jD, jE, jF]
        refine jU 8 hHeld ?_
        try simp only [jX, jD, jE, jF]
        refine jU 9 hHeld ?_
        try simp only [jX, jD, jE, jF]
        refine jU 10 hHeld ?_
        try simp only [jX, jD, jE, jF]
        refine wpAnyH_done (by kernel_rfl) ?_ _
        have K := hHeld
        have HK1 := hid K
        clear K
        obtain ⟨p3, c3', rfl⟩ := HOWN.out.form
        go_wp2_with fail
        go_roundw
        case rel => exact ⟨k + 1, _, rfl, hlt, by go_num, by rw [upT_miss HT.out.fine e me HNT.out]; exact HK1.out.own, HK1.out.gr⟩
        case measure => simp [intOf]; omega
    · obtain rfl : k = N := by omega
      go_wp2_with fail
      go_ret
      exact ⟨v, rfl, by rw [← upT_all HT.out.fine e me (Int.le_of_eq HN.out)]; exact HOWN.out, HGR.out⟩
end Go.Proofs.YtecggbndlbkhdaaGreat
end
section
namespace Go.Proofs.YtecggbndlbkhdaaGreat
open Go.Shelf
def srfLaid_ren : Go.Shelf.Ren := ⟨fun | 6 => 285 | 15 => 341 | 14 => 340 | 28 => 385 | 29 => 386 | 20 => 377 | 21 => 378 | 22 => 379 | 23 => 380 | 24 => 381 | 25 => 382 | 26 => 383 | 27 => 384 | 46 => 402 | 47 => 403 | 48 => 404 | 49 => 405 | 50 => 406 | 57 => 415 | n => n, fun | 22 => 314 | 24 => 317 | 25 => 321 | 3 => 3 | 39 => 40 | 0 => 0 | 53 => 100 | 55 => 25 | 4 => 4 | 46 => 471 | 45 => 470 | 50 => 379 | 5 => 5 | 9 => 9 | 66 => 486 | 70 => 489 | 76 => 498 | 77 => 431 | n => n, fun | n => n⟩
theorem srfLaid : Go.Proofs.SlLaysF0.n6 Tryz.prog srfLaid_ren := {
  mixed := by kernel_rfl
  f6 := ⟨Tryz.f285.name, by decide, Tryz.func285.trans (congrArg some (by kernel_rfl))⟩
  f14 := ⟨Tryz.f340.name, by decide, Tryz.func340.trans (congrArg some (by kernel_rfl))⟩
  f15 := Tryz.func341.trans (congrArg some (by kernel_rfl))
  f20 := ⟨Tryz.f377.name, by decide, Tryz.func377.trans (congrArg some (by kernel_rfl))⟩
  f21 := ⟨Tryz.f378.name, by decide, Tryz.func378.trans (congrArg some (by kernel_rfl))⟩
  f22 := ⟨Tryz.f379.name, by decide, Tryz.func379.trans (congrArg some (by kernel_rfl))⟩
  f23 := ⟨Tryz.f380.name, by decide, Tryz.func380.trans (congrArg some (by kernel_rfl))⟩
  f24 := ⟨Tryz.f381.name, by decide, Tryz.func381.trans (congrArg some (by kernel_rfl))⟩
  f25 := ⟨Tryz.f382.name, by decide, Tryz.func382.trans (congrArg some (by kernel_rfl))⟩
  f26 := ⟨Tryz.f383.name, by decide, Tryz.func383.trans (congrArg some (by kernel_rfl))⟩
  f27 := ⟨Tryz.f384.name, by decide, Tryz.func384.trans (congrArg some (by kernel_rfl))⟩
  f28 := Tryz.func385.trans (congrArg some (by kernel_rfl))
  f29 := Tryz.func386.trans (congrArg some (by kernel_rfl))
  f46 := ⟨Tryz.f402.name, by decide, Tryz.func402.trans (congrArg some (by kernel_rfl))⟩
  f47 := Tryz.func403.trans (congrArg some (by kernel_rfl))
  f48 := Tryz.func404.trans (congrArg some (by kernel_rfl))
  f49 := ⟨Tryz.f405.name, by decide, Tryz.func405.trans (congrArg some (by kernel_rfl))⟩
  f50 := ⟨Tryz.f406.name, by decide, Tryz.func406.trans (congrArg some (by kernel_rfl))⟩
  f57 := ⟨Tryz.f415.name, by decide, Tryz.func415.trans (congrArg some (by kernel_rfl))⟩
  t0 := Tryz.underlying0
  a0 := Tryz.isAgg0
  z0 := Tryz.sizeOf0
  v0 := Tryz.zeroValue0
  t3 := Tryz.underlying3
  a3 := Tryz.isAgg3
  z3 := Tryz.sizeOf3
  v3 := Tryz.zeroValue3
  t4 := Tryz.underlying4
  a4 := Tryz.isAgg4
  z4 := Tryz.sizeOf4
  v4 := Tryz.zeroValue4
  t5 := Tryz.underlying5
  a5 := Tryz.isAgg5
  z5 := Tryz.sizeOf5
  v5 := Tryz.zeroValue5
  t9 := Tryz.underlying9
  a9 := Tryz.isAgg9
  z9 := Tryz.sizeOf9
  v9 := Tryz.zeroValue9
  t22 := Tryz.underlying314
  a22 := Tryz.isAgg314
  z22 := Tryz.sizeOf314
  v22 := Tryz.zeroValue314
  t25 := Tryz.underlying321
  a25 := Tryz.isAgg321
  z25 := Tryz.sizeOf321
  v25 := Tryz.zeroValue321
  t39 := Tryz.underlying40
  a39 := Tryz.isAgg40
  z39 := Tryz.sizeOf40
  v39 := Tryz.zeroValue40
  t45 := Tryz.underlying470
  a45 := Tryz.isAgg470
  z45 := Tryz.sizeOf470
  v45 := Tryz.zeroValue470
  t46 := Tryz.underlying471
  a46 := Tryz.isAgg471
  z46 := Tryz.sizeOf471
  v46 := Tryz.zeroValue471
  t50 := Tryz.underlying379
  a50 := Tryz.isAgg379
  z50 := Tryz.sizeOf379
  v50 := Tryz.zeroValue379
  t53 := Tryz.underlying100
  a53 := Tryz.isAgg100
  z53 := Tryz.sizeOf100
  v53 := Tryz.zeroValue100
  t55 := Tryz.underlying25
  a55 := Tryz.isAgg25
  z55 := Tryz.sizeOf25
  v55 := Tryz.zeroValue25
  t66 := Tryz.underlying486
  a66 := Tryz.isAgg486
  z66 := Tryz.sizeOf486
  v66 := Tryz.zeroValue486
  t70 := Tryz.underlying489
  a70 := Tryz.isAgg489
  z70 := Tryz.sizeOf489
  v70 := Tryz.zeroValue489
  t76 := Tryz.underlying498
  a76 := Tryz.isAgg498
  z76 := Tryz.sizeOf498
  v76 := Tryz.zeroValue498
  t77 := Tryz.underlying431
  a77 := Tryz.isAgg431
  z77 := Tryz.sizeOf431
  v77 := Tryz.zeroValue431 }
end Go.Proofs.YtecggbndlbkhdaaGreat
end
section
set_option linter.unusedSimpArgs false
set_option linter.unusedVariables false
namespace Go.Proofs.YtecggbndlbkhdaaGreat
set_option maxRecDepth 100000
open Go.RowKit Go.Sort Go.Shelf

/-- a slice that reads as places -/
def RdP (W : World) (v : Value) (l : List Pc) : Prop :=
  (v = .slice none 0 0 ∧ l = []) ∨ ∃ g cap, v = .slice (some ⟨g, 0, none⟩) l.length cap ∧ l.length ≤ cap ∧ cap ≤ maxLen ∧
    ∀ i, (h : i < l.length) → W.cell? ⟨g, i * 3, none⟩ = some (.int .i64 l[i].1) ∧ W.cell? ⟨g, i * 3 + 1, none⟩ = some (.int .i64 l[i].2.1) ∧ W.cell? ⟨g, i * 3 + 2, none⟩ = some (.int .i64 l[i].2.2)
theorem flatP_at : ∀ (l : List Pc) (j : Nat), j < l.length * 3 → (flatP l)[j]? = some ((cellsP l.toArray[j / 3]!)[j % 3]!)
  | [], j, h => by simp at h
  | p :: r, j, h => by
    have e : flatP (p :: r) = cellsP p ++ flatP r := rfl
    rw [e]
    by_cases hj : j < 3
    · rw [List.getElem?_append_left (by simpa [cellsP] using hj)]
      have h0 : j / 3 = 0 := by omega
      have h1 : j % 3 = j := by omega
      rw [h0, h1]
      have : j = 0 ∨ j = 1 ∨ j = 2 := by omega
      rcases this with rfl | rfl | rfl <;> simp [cellsP]
    · rw [List.getElem?_append_right (by simp [cellsP]; omega)]
      have hl : (cellsP p).length = 3 := rfl
      rw [hl, flatP_at r (j - 3) (by simp at h; omega)]
      have h0 : j / 3 = (j - 3) / 3 + 1 := by omega
      have h1 : j % 3 = (j - 3) % 3 := by omega
      rw [h0, h1]
      simp
theorem holdsP {w : World} {base n : Nat} {v : Value} {l : List Pc} (h : w.ownsRow base 317 3 v l.length (flatP l)) (hv : v ≠ .slice none 0 0) :
    ∃ g cap, v = .slice (some ⟨g, 0, none⟩) l.length cap ∧ base ≤ g ∧ g < w.heap.size ∧ l.length ≤ cap ∧ cap ≤ maxLen ∧ HoldsK cellsP 3 w g 0 l.toArray := by
  rcases h.2 with ⟨e0, _⟩ | ⟨g, cap, cur, rfl, hb, hg, hn, hm, hs, ht⟩
  · exact absurd e0 hv
  · refine ⟨g, cap, rfl, hb, at_lt hg, hn, hm, fun j hj => ⟨?_, at_free hg _⟩⟩
    have hj' : j < l.length * 3 := by rw [size_flatK] at hj; simpa using hj
    rw [Nat.zero_add, at_cell hg j, get_flatK _ _ _ _ (by simpa using hj')]
    have e1 : (cur.toList.take (l.length * 3))[j]? = (flatP l)[j]? := by rw [ht]
    rw [List.getElem?_take, if_pos hj', Array.getElem?_toList, flatP_at l j hj'] at e1
    exact e1
theorem holdsP_rd {W : World} {g cap : Nat} {l : List Pc} (h : HoldsK cellsP 3 W g 0 l.toArray) (h1 : l.length ≤ cap) (h2 : cap ≤ maxLen) : RdP W (.slice (some ⟨g, 0, none⟩) l.length cap) l := by
  refine .inr ⟨g, cap, rfl, h1, h2, fun i hi => ?_⟩
  have hi' : i < l.toArray.size := by simpa using hi
  have c0 := (h.cell hi' (show 0 < 3 by omega)).1
  have c1 := (h.cell hi' (show 1 < 3 by omega)).1
  have c2 := (h.cell hi' (show 2 < 3 by omega)).1
  have e : l.toArray[i]! = l[i] := by simp [getElem!_pos, hi]
  rw [e] at c0 c1 c2
  simp only [Nat.zero_add, Nat.add_zero] at c0 c1 c2
  exact ⟨c0, c1, c2⟩
theorem cmpLays (blk off size : Nat) (w : World) : CmpLays Tryz.prog 205 #[] cellsP 3 cmpP blk off size w :=
  fun _ _ _ _ x y => cmpP_any x y _
theorem gb_sortK {w : World} {g n : Nat} {os : Array Obj} (d : Array Pc) : w.grownBy (sortWorldK cellsP 3 w g 0 n d os) (some g) := by
  refine ⟨rfl, rfl, rfl, by simp [sortWorldK, putRowK, putRow, mapBlock, Sort.ahead, grow], fun k hk hne => ?_⟩
  unfold sortWorldK putRowK
  rw [heap_grow_old _ _ (by simpa [putRow, mapBlock, Sort.ahead] using hk)]
  have : g ≠ k := fun e => hne (by rw [e])
  simp [putRow, mapBlock, Sort.ahead, Array.getElem?_modify, this]
/-- slices.SortFunc over a slice of the call's own -/
theorem sortP_any {L : List Sm} (hS : Srt L) (base : Nat) (v : Value) (ps : List Pc) (hp : ps.Perm (L.map Sm.pl)) (w : World) (hown : w.ownsRow base 317 3 v ps.length (flatP ps)) (hnil : v = .slice none 0 0 ↔ ps = []) (hlen : ps.length ≤ 100000) :
    Calls Tryz.prog 285 #[v, .func (.func 205) #[] #[]] w fun e w' => e = .returned (.tuple #[]) ∧ RdP w' v (L.map Sm.pl) ∧ Chg v.ownBlock.toList w w' := by
  by_cases h0 : ps = []
  · obtain rfl := hnil.2 h0
    subst h0
    have hL : L.map Sm.pl = [] := hp.nil_eq.symm
    have hc := AnyF.slices_SortFunc_none srfLaid none 0 (.func (.func 205) #[] #[]) w
    change Calls Tryz.prog 285 _ _ _ at hc
    refine hc.mono ?_
    rintro e w' ⟨rfl, rfl⟩
    exact ⟨rfl, .inl ⟨rfl, hL⟩, chg_refl _ _⟩
  · have hv : v ≠ .slice none 0 0 := fun e => h0 (hnil.1 e)
    obtain ⟨g, cap, rfl, hb, hg, h1, h2, hH⟩ := holdsP (n := 0) hown hv
    have eg : ∀ args w, (callFunc 205 args).run Tryz.prog w = .ok (.enter 205 args) w := enters_of Tryz.func205 (by kernel_rfl) rfl
    have hc := AnyQ.slices_SortFunc_total srfLaid 3 Tryz.isAgg317 Tryz.sizeOf317 cellsP (fun _ => rfl) (fun x v hv => by simp [cellsP] at hv; rcases hv with rfl | rfl | rfl <;> rfl) cmpP cmpP_swo 205 #[] g 0 cap ps.toArray w eg (cmpLays g 0 _ w) hH hg (by simp; omega) cmpP_apart
    change Calls Tryz.prog 285 _ _ _ at hc
    simp only [List.size_toArray] at hc
    refine hc.mono ?_
    rintro e w' ⟨rfl, n, os, rfl⟩
    rw [sort_places hS hp]
    have hl : (L.map Sm.pl).length = ps.length := hp.length_eq.symm
    refine ⟨rfl, ?_, (chg_row (gb_sortK _)).more (by simp [Value.ownBlock])⟩
    rw [← hl]
    refine holdsP_rd ?_ (by omega) h2
    unfold sortWorldK
    refine holdsK_grow _ _ _ _ _ _ _ (by simpa [putRowK, putRow, mapBlock, Sort.ahead] using hg) ?_
    exact holdsK_putRowK _ _ _ _ _ _ _ (holdsK_ahead _ _ _ _ _ _ _ hH) (by simp [← hl])
end Go.Proofs.YtecggbndlbkhdaaGreat
end
