/-
  Contract for package state: what is done, by the model. The condition: the state lies there, and is what may be.
  The writer of numbers: what it holds, what else stays; numbers put behind the others. The condition: the writer lies there, numbers read.
  The writer of numbers: literals of one to four numbers, lists, flags. The condition: the writer lies there, numbers read.
-/
import Derived.Test.YtecggbndlbkhdaaGreatJ0
import Derived.Test.YtecggbndlbkhdaaGreatY35
import Derived.Test.YtecggbndlbkhdaaGreatY21
import Derived.Test.YtecggbndlbkhdaaGreatY26
import Derived.Test.YtecggbndlbkhdaaGreatY10
import Derived.Test.YtecggbndlbkhdaaGreatY6
import Derived.Test.YtecggbndlbkhdaaGreatY13
import Derived.Deep.RegionHeld3
import Derived.Test.YtecggbndlbkhdaaGreatY22
section
set_option linter.unusedSimpArgs false
set_option linter.unusedVariables false
namespace Go.Proofs.YtecggbndlbkhdaaGreat
set_option maxRecDepth 100000
open Go.RowKit

theorem dec_is {s : Ste} : decOf s.l s.now (if s.holds = true then [] else s.vals) (!s.holds) = s.dec := by
  unfold decOf Ste.dec withV
  cases s.holds <;> rfl
/-- the epoch's end -/
theorem suend_any {w : World} {X : SBl} {c : Conf} {s s0 : Ste} (hO : SuOf c s0) (hk : Ste.Ok s0 s) (hK : StAt w X c s) :
    Calls Tryz.prog 75 #[.pointer (some ⟨X.b, 0, none⟩)] w fun e w' => e = .returned (.tuple #[dcV s.close.1.1, .int .i64 s.close.1.2]) ∧ SuK w X.all X.b c s.close.2 w' := by
  have h0 := hk.n0; have h1 := hk.n1
  unfold Ste.close
  by_cases hn : 1099511627776 ≤ s.now
  · rw [if_pos hn]
    refine (end_last hK (by omega)).mono ?_
    rintro e w' ⟨rfl, hg⟩
    exact ⟨rfl, hK.suk.grown hg⟩
  · rw [if_neg hn]
    have hp := hk.p
    have hm1 := hO.tie.m1
    have hpb := hk.pb
    obtain ⟨f1, f2, f3⟩ := hO.f2
    have em := hO.m; have ef := hO.f; have eq := hO.q; have en := hO.n
    have hl : s.t.length ≤ 512 := srt_len (now := s.now) hk.t fun x hx => by
      have h1 := hk.tb x hx
      have h3 := hO.base.fr
      omega
    have hb := bel_rows (s := s) (hk.row_in hO.base) (by rw [hp]; omega) (by rw [hp]; omega)
    have hq : c.quorum = s.p.q := by rw [hp]; exact eq
    have hff : c.f = s.p.f := by rw [hp]; exact ef
    rw [← hq, ← hff] at hb
    have hmm : c.m = ((s.p.m.toNat : Nat) : Int) := by rw [hp]; omega
    have hB : belR c.quorum c.f s.rows = (if s.holds = true then [] else s.vals, !s.holds) := by rw [hb]; cases s.holds <;> rfl
    have hW := end_walk hK hmm (by rw [hp]; omega) hl h0 (by omega) (sc_ok hO hk) (by omega) (rows := s.rows) rfl hB (fun e => by
      have : s.holds = false := by simpa using e
      rw [if_neg (by rw [this]; simp)]; exact hk.asks hO.tie) hk.dl
    rw [dec_is] at hW
    refine hW.mono ?_
    rintro e w' ⟨rfl, h⟩
    refine ⟨rfl, ?_⟩
    rw [hq] at h
    have e2 : (if (!s.holds) = true then s.l.next (if s.holds = true then [] else s.vals) else s.l.hold) = (if s.holds = true then s.l.hold else s.l.next s.vals) := by cases s.holds <;> rfl
    rw [e2] at h
    exact h
end Go.Proofs.YtecggbndlbkhdaaGreat
end
section
set_option linter.unusedSimpArgs false
set_option linter.unusedVariables false
namespace Go.Proofs.YtecggbndlbkhdaaGreat
set_option maxRecDepth 100000
open Go.RowKit

/-- numbers as bytes, eight for each -/
def pn (ns : List Int) : List UInt8 := ns.flatMap fun n => put8 (w64 n)
theorem pn_len (ns : List Int) : (pn ns).length = 8 * ns.length := by
  induction ns with
  | nil => rfl
  | cons a r ih => show (put8 (w64 a) ++ pn r).length = _; rw [List.length_append, ih, put8_length, List.length_cons]; omega
theorem pn_append (a b : List Int) : pn (a ++ b) = pn a ++ pn b := List.flatMap_append
theorem pn_one (a : Int) : pn [a] = put8 (w64 a) := by simp [pn]
theorem u64_w64 (x : Int) : IntKind.u64.wrap x = q (w64 x) := by
  unfold q w64
  rw [BitVec.toNat_ofInt]
  simp [IntKind.wrap, IntKind.bits, IntKind.signed]
  omega
theorem put_own (n : BitVec 64) (w : World) :
    Calls Tryz.prog 183 #[.int .u64 (q n)] w fun e w' => e = .returned (.slice (some ⟨w.heap.size, 0, none⟩) 8 8) ∧ OwnB w.heap.size w' (.slice (some ⟨w.heap.size, 0, none⟩) 8 8) (put8 n) ∧ w.grownBy w' none := by
  refine (put_any n w).mono ?_
  rintro e w' ⟨rfl, h, hg⟩
  refine ⟨rfl, ⟨by rw [List.length_map, put8_length], .inr ⟨w.heap.size, 8, _, rfl, Nat.le_refl _, h, Nat.le_refl _, by unfold maxLen; omega, rfl, ?_⟩⟩, hg⟩
  rw [putArr_full, put8_length, List.take_of_length_le (by simp [put8_length])]
  rfl
theorem own_u8 {base : Nat} {w : World} {v : Value} {l : List UInt8} {g : Nat} (h : OwnB base w v l) (hg : v.ownBlock = some g) : base ≤ g ∧ ∃ cs, w.heap[g]? = some (.cells cs 5) := by
  obtain ⟨_, h | ⟨g', cap, cur, rfl, hb, hh, _⟩⟩ := h
  · rw [h.1] at hg; simp [Value.ownBlock] at hg
  · simp [Value.ownBlock] at hg
    subst hg
    exact ⟨hb, cur, hh⟩
theorem own_lo {base : Nat} {w : World} {v : Value} {l : List UInt8} {g : Nat} (h : OwnB base w v l) (hg : v.ownBlock = some g) : base ≤ g := (own_u8 h hg).1
/-- what writing changes: the writer, and bytes -/
def ByW (wb : Nat) (W W' : World) : Prop := ∃ F, Chg F W W' ∧ ∀ x ∈ F, x = wb ∨ ∃ cs, W.heap[x]? = some (.cells cs 5)
theorem ByW.refl (wb : Nat) (W : World) : ByW wb W W := ⟨[], chg_refl W _, by simp⟩
theorem ByW.of {wb : Nat} {W W' : World} (h : W.grownBy W' none) : ByW wb W W' := ⟨[], chg_grown h _, by simp⟩
theorem ByW.trans {wb : Nat} {W W1 W2 : World} (h : ByW wb W W1) (k : ByW wb W1 W2) : ByW wb W W2 := by
  obtain ⟨F, h1, h2⟩ := h
  obtain ⟨G, k1, k2⟩ := k
  refine ⟨F ++ G.filter (fun x => decide (x < W.heap.size)), ?_, fun x hx => ?_⟩
  · refine (h1.more fun x hx => List.mem_append_left _ hx).trans k1 fun x hx => ?_
    by_cases hl : x < W.heap.size
    · exact .inl (List.mem_append_right _ (List.mem_filter.2 ⟨hx, by simpa using hl⟩))
    · exact .inr (by omega)
  · by_cases hF : x ∈ F
    · exact h2 x hF
    · rcases List.mem_append.1 hx with hx | hx
      · exact absurd hx hF
      · obtain ⟨hx, hl⟩ := List.mem_filter.1 hx
        have hl : x < W.heap.size := by simpa using hl
        rcases k2 x hx with e | ⟨cs, e⟩
        · exact .inl e
        · exact .inr ⟨cs, by rw [← h1.block x hl hF]; exact e⟩
theorem ByW.grown {wb : Nat} {W W1 W2 : World} (h : ByW wb W W1) (hg : W1.grownBy W2 none) : ByW wb W W2 := h.trans (.of hg)
/-- a block of another type stays -/
theorem ByW.at {wb b : Nat} {W W' : World} {cs : Array Value} {t : TypeId} {fz : Nat × Nat} (h : ByW wb W W') (hb : W.heap[b]? = some (.cells cs t fz)) (ht : t ≠ 5) (hn : b ≠ wb) : W'.heap[b]? = some (.cells cs t fz) := by
  obtain ⟨F, h1, h2⟩ := h
  refine h1.at hb fun hm => ?_
  rcases h2 b hm with e | ⟨cs', e⟩
  · exact hn e
  · rw [hb] at e; cases e; exact ht rfl
/-- the writer at wb: what it holds; all that was in w is as it was -/
structure WrK (w : World) (wb : Nat) (L : List UInt8) (W : World) : Prop where
  gr : w.grownBy W none
  lo : w.heap.size ≤ wb
  obj : ∃ v, W.heap[wb]? = some (.cells #[v] 167) ∧ OwnB (wb + 1) W v L
theorem WrK.grown {w W W' : World} {wb : Nat} {L : List UInt8} (h : WrK w wb L W) (hg : W.grownBy W' none) : WrK w wb L W' := by
  obtain ⟨v, h1, h2⟩ := h.obj
  exact ⟨gb_trans h.gr hg (.inl rfl), h.lo, v, at_grown h1 hg (by simp), h2.grown hg (by simp)⟩
theorem WrK.drew {w W : World} {wb : Nat} {L : List UInt8} (h : WrK w wb L W) : WrK w wb L W.drew := by
  obtain ⟨v, h1, h2⟩ := h.obj
  exact ⟨gb_drew h.gr, h.lo, v, h1, h2⟩
theorem WrK.alloc {w W : World} {wb : Nat} {L : List UInt8} (h : WrK w wb L W) (o : Obj) : WrK w wb L (W.alloc o) := h.grown (World.grownBy_alloc W o none)
theorem WrK.next {w wr W6 w7 : World} {wb : Nat} {LL r : List UInt8} {vv v7 : Value} (h : WrK w wb LL wr) (ho : OwnB (wb + 1) W6 vv LL) (hg : wr.grownBy W6 none) (hr : W6.heap[wb]? = some (.cells #[vv] 167)) (hown : OwnB (wb + 1) w7 v7 (LL ++ r)) (hgrow : W6.grownBy w7 vv.ownBlock) (hat : v7.ownBlock = vv.ownBlock ∨ v7.ownBlock = some W6.heap.size) :
    WrK w wb (LL ++ r) (w7.setCell ⟨wb, 0, none⟩ v7) ∧ ByW wb wr (w7.setCell ⟨wb, 0, none⟩ v7) := by
  have hn : ∀ g, vv.ownBlock = some g → wb ≠ g := fun g e hh => by have := own_lo ho e; omega
  have hr7 : w7.heap[wb]? = some (.cells #[vv] 167) := at_grown hr hgrow (fun e => hn wb e.symm rfl)
  have hset : Chg [wb] w7 (w7.setCell ⟨wb, 0, none⟩ v7) := (chg_refl w7 _).set (.inl (by simp)) _
  have hown' : OwnB (wb + 1) (w7.setCell ⟨wb, 0, none⟩ v7) v7 (LL ++ r) := by
    obtain ⟨h0, h | ⟨g, cap, cur, e, hb, hh, h1⟩⟩ := hown
    · exact ⟨h0, .inl h⟩
    · exact ⟨h0, .inr ⟨g, cap, cur, e, hb, hset.at hh (by simp; omega), h1⟩⟩
  have hc : Chg (wb :: vv.ownBlock.toList) W6 (w7.setCell ⟨wb, 0, none⟩ v7) := ((chg_opt hgrow).more fun x hx => List.mem_cons_of_mem _ hx).then (hset.more fun x hx => by rw [List.mem_singleton.1 hx]; exact List.mem_cons_self ..)
  refine ⟨⟨?_, h.lo, v7, at_set hr7 0 v7, hown'⟩, ByW.trans (.of hg) ⟨_, hc, fun x hx => ?_⟩⟩
  · refine ((chg_grown (gb_trans h.gr hg (.inl rfl)) []).trans hc fun x hx => .inr ?_).free (by simp)
    rcases List.mem_cons.1 hx with e | hx
    · rw [e]; exact h.lo
    · have := own_lo ho (show vv.ownBlock = some x by simpa using hx)
      have := h.lo
      omega
  · rcases List.mem_cons.1 hx with e | hx
    · exact .inl e
    · exact .inr (own_u8 ho (show vv.ownBlock = some x by simpa using hx)).2
set_option maxHeartbeats 3200000 in
theorem wput_any {w W : World} {wb : Nat} {L : List UInt8} {xv : Value} {ns : List Int} (h : WrK w wb L W) (hx : ∀ W', ByW wb W W' → IntsAt W' xv ns) (hlen : L.length + 8 * ns.length ≤ 1000000) :
    Calls Tryz.prog 90 #[.pointer (some ⟨wb, 0, none⟩), xv] W fun e W' => e = .returned (.tuple #[]) ∧ WrK w wb (L ++ pn ns) W' ∧ ByW wb W W' := by
  have HX := hid hx; have H0 := hid h; have HLN := hid hlen
  obtain ⟨p, cp, rfl⟩ := (hx W (.refl wb W)).form
  obtain ⟨n, hn⟩ : ∃ n, ns.length = n := ⟨_, rfl⟩
  have HN := hid hn
  have HX := hid (show ∀ W', ByW wb W W' → IntsAt W' (.slice p n cp) ns by rw [← hn]; exact hx)
  have hnb : n ≤ 1000000 := by omega
  clear h hx hlen hn
  go_enter Tryz.func90, Tryz.ntmps90
  go_wp2_with fail
  go_loopw [8] (fun i wr => ∃ k : Nat, k ≤ n ∧ i = .int .i64 (k : Int) ∧ WrK w wb (L ++ pn (ns.take k)) wr ∧ ByW wb W wr) (fun i _ => n - (intOf i).toNat)
  case atStart => exact ⟨0, Nat.zero_le _, rfl, by simpa [pn] using H0.out, .refl wb W⟩
  case round =>
    obtain ⟨k, hk, rfl, hW, hB⟩ := hrel
    have HW := hid hW; have HBY := hid hB
    clear hW hB
    by_cases hlt : k < n
    · have hk1 : k + 1 ≤ n := hlt
      have hkl : k < ns.length := by rw [HN.out]; exact hlt
      obtain ⟨ab, ao, rfl, -, hcc, hcell⟩ := (HX.out _ HBY.out).cell hkl
      have HPN := hid (show pn (ns.take (k + 1)) = pn (ns.take k) ++ put8 (w64 ns[k]) by rw [List.take_succ_eq_append_getElem hkl, pn_append, pn_one])
      have hll : (L ++ pn (ns.take k)).length + 8 ≤ 1000000 := by
        have h1 := HLN.out; have h2 := HN.out
        rw [List.length_append, pn_len, List.length_take]; omega
      have HPQ := hid (show L ++ pn (ns.take (k + 1)) = (L ++ pn (ns.take k)) ++ put8 (w64 ns[k]) by rw [HPN.out, List.append_assoc])
      generalize ns[k] = x at *
      obtain ⟨LL, hLL⟩ : ∃ LL, L ++ pn (ns.take k) = LL := ⟨_, rfl⟩
      rw [hLL] at HW hll HPQ
      have HLL := hid hll
      obtain ⟨vv, hr0, ho0⟩ := HW.out.obj
      have RX := hid (show wr.drew.heap[wb]? = some (.cells #[vv] 167) from hr0)
      have TO := hid (show OwnB (wb + 1) wr.drew vv LL from ho0)
      have TG := hid (show wr.grownBy wr.drew none from gb_drew (.refl wr none))
      have hcv := u64_w64 x
      clear hLL hll hr0 ho0 HPN
      go_upto_region 3 with fail
      clear hkl
      refine wp_region_last (S := (fun w' => (w'.heap[wb]? = some (.cells #[vv] 167)))) 11 11 #[false, false, false, false, false, false, false, false, false, false, false, true] (by kernel_rfl) (by kernel_rfl) (by kernel_rfl) (by kernel_rfl) RX.out (fun hHeld => ?_)
      try dsimp only at hHeld
      refine jU 0 hHeld ?_
      try simp only [jX, jD, jE, jF]
      refine jU 1 hHeld ?_
      try simp only [jX, jD, jE, jF]
      refine jU 2 hHeld ?_
      try simp only [jX, jD, jE, jF]
      refine jU 3 hHeld ?_
      try simp only [jX, jD, jE, jF]
      refine' jT 4 rfl (by rfl) ?_ hHeld ?_
      rotate_left
      · (intro w hSw; (try dsimp only at hSw); have R := hSw; have k0 := at_cell R 0; go_simp; try with_reducible rfl)
      try simp only [jX, jD, jE, jF]
      refine jU 5 hHeld ?_
      try simp only [jX, jD, jE, jF]
      refine jU 6 hHeld ?_
      try simp only [jX, jD, jE, jF]
      refine jR [7] ?_
      refine jG rfl (fun K hK => ?_) AllReadyH.nil
      try simp only [jD, jE, jF]
      go_simp
      have hH2 := hHeld
      have R := hH2
      refine ((put_own (w64 x) _)).mono ?_
      rintro e w1007 ⟨rfl, hp, hg⟩
      have R := at_grown R hg (by simp)
      replace TO := hid (TO.out.grown hg (by simp))
      replace TG := hid (gb_trans TG.out hg (.inl rfl))
      have PB := hid hp.bytes
      clear hp
      have L7 := hid (show (w1007.heap[wb]? = some (.cells #[vv] 167)) from R)
      clear hHeld hg R
      go_wp2_with fail
      refine hK.out _ _ ?_ (fun hHeld => ?_)
      · exact L7.out
      clear hK K
      try dsimp only at hHeld
      try simp only [jX, jD, jE, jF]
      refine jR [8] ?_
      refine jG rfl (fun K hK => ?_) AllReadyH.nil
      have hH2 := hHeld
      have R := hH2
      try simp only [jD, jE, jF]
      rw [if_pos (by rfl)]
      have LB := hid (at_lt R)
      refine wp_append_bytes _ _ rfl (wb + 1) _ LL rfl TO.out _ _ rfl PB.out (by have := HLL.out; rw [put8_length]; omega) LB.out ?_
      intro v7 w7 hown hgrow hat
      change World.grownBy _ w7 vv.ownBlock at hgrow
      change v7.ownBlock = vv.ownBlock ∨ _ at hat
      have FIN := hid (WrK.next HW.out TO.out TG.out R hown hgrow hat)
      have O7 := hid hown
      have R := at_grown R hgrow (fun e => by cases e' : vv.ownBlock with | none => rw [e'] at e; cases e | some g => rw [e'] at e; cases e; have := own_lo TO.out e'; omega)
      clear hown hgrow hat
      have L8 := hid (show (w7.heap[wb]? = some (.cells #[vv] 167)) from R)
      clear hHeld R
      refine hK.out _ _ ?_ (fun hHeld => ?_)
      · exact L8.out
      clear hK K
      try dsimp only at hHeld
      try simp only [jX, jD, jE, jF]
      refine jU 9 hHeld ?_
      try simp only [jX, jD, jE, jF]
      refine jU 10 hHeld ?_
      try simp only [jX, jD, jE, jF]
      refine wpAnyH_done (by kernel_rfl) ?_ _
      have R := hHeld
      have RF := hid R
      obtain ⟨p7, k7, rfl⟩ := O7.out.form
      have h9 := FIN.out
      simp only [List.length_append] at h9
      have FIN := hid h9
      clear h9
      have k4 := at_free RF.out 0
      have k5 := at_cell RF.out 0
      clear R
      refine atLast_step (o := _) rfl (fun K hK => ?_)
      try simp only [jD, jE, jF]
      go_simp
      refine hK.out _ _ ?_
      clear hK K k4 k5
      try simp only [jX, jD, jE, jF]
      go_wp2_with fail
      go_roundw
      case rel => exact ⟨k + 1, hk1, by go_num, by rw [HPQ.out]; simpa using FIN.out.1, HBY.out.trans FIN.out.2⟩
      case measure => first | (simp [intOf]; done) | (simp [intOf]; omega)
    · have ek : k = n := by omega
      have hw := HW.out
      rw [ek, ← HN.out, List.take_length] at hw
      have HF := hid hw
      have d1 : ¬ k < ns.length := by rw [HN.out]; exact hlt
      clear hw ek
      go_wp2_with fail
      go_end0
      exact ⟨rfl, HF.out, HBY.out⟩
end Go.Proofs.YtecggbndlbkhdaaGreat
end
section
set_option linter.unusedSimpArgs false
set_option linter.unusedVariables false
namespace Go.Proofs.YtecggbndlbkhdaaGreat
set_option maxRecDepth 100000
open Go.RowKit

@[reducible] def litObj (ns : List Int) : Obj := .cells (ns.map iv).toArray 2
theorem WrK.lt {w W : World} {wb : Nat} {L : List UInt8} (h : WrK w wb L W) : wb < W.heap.size := by
  obtain ⟨v, h1, _⟩ := h.obj; exact at_lt h1
/-- a literal that is put -/
theorem wput_lit {w W : World} {wb : Nat} {L : List UInt8} (h : WrK w wb L W) (ns : List Int) (hn : ns.length ≤ 1000) (hlen : L.length + 8 * ns.length ≤ 1000000) :
    Calls Tryz.prog 90 #[.pointer (some ⟨wb, 0, none⟩), .slice (some ⟨W.heap.size, 0, none⟩) ns.length ns.length] (W.alloc (litObj ns)) fun e W' => e = .returned (.tuple #[]) ∧ WrK w wb (L ++ pn ns) W' ∧ ByW wb W W' := by
  have hb := at_new W (litObj ns)
  refine (wput_any (h.alloc (litObj ns)) (ns := ns) (fun W' hW => ?_) hlen).mono ?_
  · exact blk_ints (hW.at hb (by decide) (by have := h.lt; omega)) (by unfold maxLen; omega)
  · rintro e W' ⟨h1, h2, h3⟩
    exact ⟨h1, h2, ByW.trans (.of (World.grownBy_alloc W _ none)) h3⟩
theorem flag_any (b : Bool) (w : World) :
    Calls Tryz.prog 192 #[.bool b] w fun e w' => e = .returned (.int .i64 (if b = true then 1 else 0)) ∧ w = w' := by
  cases b <;> (go_enter Tryz.func192, Tryz.ntmps192; go_wp2_with fail; go_ret; exact ⟨rfl, rfl⟩)
set_option maxHeartbeats 1600000 in
theorem wlist_any {w W : World} {wb : Nat} {L : List UInt8} {xv : Value} {ns : List Int} (h : WrK w wb L W) (hx : ∀ W', ByW wb W W' → IntsAt W' xv ns) (hlen : L.length + 8 * (ns.length + 1) ≤ 1000000) :
    Calls Tryz.prog 92 #[.pointer (some ⟨wb, 0, none⟩), xv] W fun e W' => e = .returned (.tuple #[]) ∧ WrK w wb (L ++ pn ((ns.length : Int) :: ns)) W' ∧ ByW wb W W' := by
  have HX := hid hx; have H0 := hid h; have HLN := hid hlen
  obtain ⟨p, cp, rfl⟩ := (hx W (.refl wb W)).form
  have P0 := hid (wput_lit h [(ns.length : Int)] (by simp) (by simp only [List.length_singleton]; omega))
  have hnb : ns.length ≤ 1000000 := by omega
  clear h hx hlen
  go_enter Tryz.func92, Tryz.ntmps92
  go_wp2_with fail
  refine P0.out.mono ?_
  rintro e W1 ⟨rfl, hw1, hb1⟩
  have H1 := hid hw1; have B1 := hid hb1
  clear hw1 hb1 P0
  go_wp2_with fail
  go_loopw [13] (fun i wr => ∃ k : Nat, k ≤ ns.length ∧ i = .int .i64 (k : Int) ∧ WrK w wb (L ++ pn ((ns.length : Int) :: ns.take k)) wr ∧ ByW wb W wr) (fun i _ => ns.length - (intOf i).toNat)
  case atStart => exact ⟨0, Nat.zero_le _, rfl, H1.out, B1.out⟩
  case round =>
    obtain ⟨k, hk, rfl, hW, hB⟩ := hrel
    have HW := hid hW; have HBY := hid hB
    clear hW hB
    by_cases hlt : k < ns.length
    · have hk1 : k + 1 ≤ ns.length := hlt
      obtain ⟨ab, ao, rfl, -, hcc, hcell⟩ := (HX.out _ HBY.out).cell hlt
      have HPQ := hid (show L ++ pn ((ns.length : Int) :: ns.take (k + 1)) = (L ++ pn ((ns.length : Int) :: ns.take k)) ++ pn [ns[k]] by
        rw [List.take_succ_eq_append_getElem hlt, ← List.cons_append, pn_append, List.append_assoc])
      have hll : (L ++ pn ((ns.length : Int) :: ns.take k)).length + 8 * 1 ≤ 1000000 := by
        have h1 := HLN.out
        rw [List.length_append, pn_len, List.length_cons, List.length_take]; omega
      have PK := hid (wput_lit HW.out [ns[k]] (by simp) hll)
      generalize ns[k] = x at *
      clear hll
      go_wp2_with fail
      refine PK.out.mono ?_
      rintro e W2 ⟨rfl, hw2, hb2⟩
      rw [← HPQ.out] at hw2
      have H2 := hid hw2; have B2 := hid (HBY.out.trans hb2)
      clear hw2 hb2 PK
      go_wp2_with fail
      go_roundw
      case rel => exact ⟨k + 1, hk1, by go_num, H2.out, B2.out⟩
      case measure => first | (simp [intOf]; done) | (simp [intOf]; omega)
    · have ek : k = ns.length := by omega
      have hw := HW.out
      rw [ek, List.take_length] at hw
      have HF := hid hw
      clear hw ek
      go_wp2_with fail
      go_end0
      exact ⟨rfl, HF.out, HBY.out⟩
end Go.Proofs.YtecggbndlbkhdaaGreat
end
