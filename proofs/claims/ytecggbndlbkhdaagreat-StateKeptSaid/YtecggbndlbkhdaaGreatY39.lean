/-
  Contract for package state: Bytes. The condition: the state lies there, and is what may be; of nil nothing.
  A state's bytes are its model's. No condition.
  The reader of numbers: the next number, how many follow. The condition: the reader lies there, the bytes read.
-/
import Derived.Test.YtecggbndlbkhdaaGreatY38
import Derived.Test.YtecggbndlbkhdaaGreatY34
import Derived.Test.YtecggbndlbkhdaaGreatY22
import Derived.Test.YtecggbndlbkhdaaGreatY10
import Derived.Test.YtecggbndlbkhdaaGreatY15
section
set_option linter.unusedSimpArgs false
set_option linter.unusedVariables false
namespace Go.Proofs.YtecggbndlbkhdaaGreat
set_option maxRecDepth 100000
open Go.RowKit

theorem subytes_nil (w : World) : Calls Tryz.prog 31 #[.pointer none] w fun e w' => e = .returned (.slice none 0 0) ∧ w = w' := by
  go_enter Tryz.func31, Tryz.ntmps31
  go_wp2_with fail
  refine (sumade_nil _).mono ?_
  rintro e w2 ⟨rfl, rfl⟩
  go_wp2_with fail
  go_ret
  exact ⟨rfl, rfl⟩
/-- all numbers of a state, as they are told -/
def Ste.nums (s : Ste) : List Int := [s.now] ++ (List.range s.p.n).flatMap s.coN ++ ((s.l.ca.l.length : Int) :: s.l.ca.l) ++ ((s.l.po.l.length : Int) :: s.l.po.l) ++ [s.l.n] ++ ((s.t.length : Int) :: s.t.flatMap saN) ++ ((s.ds.length : Int) :: s.ds.flatMap deN)
theorem coN_len (s : Ste) (k : Nat) : ((List.range k).flatMap s.coN).length = k * 9 := by
  have := flat_lenG (k := 9) s.coN (fun _ => rfl) (List.range k)
  rwa [List.length_range] at this
set_option maxHeartbeats 6400000 in
theorem subytes_walk {w : World} {X : SBl} {c : Conf} {s : Ste} (hK : StAt w X c s) {n : Nat} (hn : c.n = (n : Int)) (hpn : s.p.n = n) (hn16 : n ≤ 16) (hgn : n ≤ s.g.r.n) (hsn : n ≤ s.s.H.length) (hca : s.l.ca.l.length ≤ 100) (hpo : s.l.po.l.length ≤ 100) (ht : s.t.length ≤ 512) (hds : s.ds.length ≤ 64) :
    Calls Tryz.prog 31 #[.pointer (some ⟨X.b, 0, none⟩)] w fun e w' => ∃ v, e = .returned v ∧ OwnB w.heap.size w' v (pn s.nums) ∧ w.grownBy w' none := by
  have HK := hid hK; have HP := hid hpn; have HG := hid hgn; have HSN := hid hsn; have HC := hid hca; have HPO := hid hpo; have HT := hid ht; have HD := hid hds; have HNN := hid hn
  have M0 := hid (sumade_any hK)
  have K1 := hid (hK.alloc (.cells #[.slice none 0 0] 167))
  have H1 := hid (show WrK w w.heap.size [] (w.alloc (.cells #[.slice none 0 0] 167)) from ⟨gb_alloc (.refl w none) _, Nat.le_refl _, _, at_new w _, OwnB.nil _ _⟩)
  clear hK hn hpn hgn hsn hca hpo ht hds
  go_enter Tryz.func31, Tryz.ntmps31
  go_wp2_with fail
  refine M0.out.mono ?_
  rintro e w2 ⟨rfl, rfl⟩
  clear M0
  go_wp2_with fail
  refine (sunow_any K1.out).mono ?_
  rintro e w2 ⟨rfl, rfl⟩
  have pk := wput_lit H1.out [s.now] (by simp) (by simp)
  generalize hwb : w.heap.size = wb at H1 pk ⊢
  have LO := hid (show w.heap.size ≤ wb from Nat.le_of_eq hwb)
  generalize w.alloc (.cells #[.slice none 0 0] 167) = W1 at *
  have PK := hid pk
  clear pk hwb K1 H1
  go_wp2_with fail
  refine PK.out.mono ?_
  rintro e W2 ⟨rfl, hw, -⟩
  rw [List.nil_append] at hw
  have H2 := hid hw
  have c0 := (HK.out.grown hw.gr).conf.1
  rw [HNN.out] at c0
  clear hw PK
  go_wp2_with fail
  clear c0
  go_loopw [4, 17] (fun _ i wr => ∃ k : Nat, k ≤ n ∧ i = .int .i64 (k : Int) ∧ WrK w wb (pn ([s.now] ++ (List.range k).flatMap s.coN)) wr) (fun _ i _ => n - (intOf i).toNat)
  case atStart => exact ⟨0, Nat.zero_le _, rfl, H2.out⟩
  case round =>
    obtain ⟨k, hk, rfl, hW⟩ := hrel
    have HW := hid hW
    clear hW
    by_cases hlt : k < n
    · have hk1 : k + 1 ≤ n := hlt
      have hlen : (pn ([s.now] ++ (List.range k).flatMap s.coN)).length + 80 ≤ 1000000 := by
        rw [pn_len, List.length_append, coN_len, List.length_singleton]; omega
      have PC := hid (putco_any HK.out HW.out k (by have := HG.out; omega) (by have := HSN.out; omega) hlen)
      have HPQ := hid (show pn ([s.now] ++ (List.range (k + 1)).flatMap s.coN) = pn ([s.now] ++ (List.range k).flatMap s.coN) ++ pn (s.coN k) by
        rw [List.range_succ, List.flatMap_append, ← pn_append]; simp)
      clear hlen
      go_wp2_with fail
      refine PC.out.mono ?_
      rintro e W3 ⟨rfl, hw⟩
      rw [← HPQ.out] at hw
      have H3 := hid hw
      clear hw PC
      go_wp2_with fail
      go_roundw
      case rel => exact ⟨k + 1, hk1, by go_num, H3.out⟩
      case measure => first | (simp [intOf]; done) | (simp [intOf]; omega)
    · obtain rfl : k = n := by omega
      have hL1 : ([s.now] ++ (List.range k).flatMap s.coN).length ≤ 145 := by rw [List.length_append, coN_len, List.length_singleton]; omega
      obtain ⟨N1, hN1⟩ : ∃ N1, [s.now] ++ (List.range k).flatMap s.coN = N1 := ⟨_, rfl⟩
      rw [hN1] at HW hL1
      have HN1 := hid hN1; have HL1 := hid hL1
      have S1 := hid (HK.out.grown HW.out.gr)
      have c30 := S1.out.cells.2.2.2.2.1
      clear hN1 hL1
      go_wp2_with fail
      refine (lcalm_any S1.out.law).mono ?_
      rintro e w2 ⟨rfl, rfl⟩
      go_wp2_with fail
      refine (alls_any S1.out.law.ca).mono ?_
      rintro e W4 ⟨⟨v4, rfl, ho⟩, hg⟩
      have H4 := hid (HW.out.grown hg)
      obtain ⟨vw, hvw, -⟩ := H4.out.obj
      have PL := hid (wlist_any H4.out (xv := v4) (ns := s.l.ca.l) (fun W' hW => (ho.byw hW hvw).ints) (by have h1 := HL1.out; have h2 := HC.out; rw [pn_len]; omega))
      obtain ⟨p4, k4, rfl⟩ := ho.form
      clear ho hg hvw c30 S1 HW
      go_wp2_with fail
      refine PL.out.mono ?_
      rintro e W5 ⟨rfl, hw, -⟩
      rw [← pn_append] at hw
      have H5 := hid hw
      have hL2 : (N1 ++ ((s.l.ca.l.length : Int) :: s.l.ca.l)).length ≤ 246 := by have h1 := HL1.out; have h2 := HC.out; rw [List.length_append, List.length_cons]; omega
      obtain ⟨N2, hN2⟩ : ∃ N2, N1 ++ ((s.l.ca.l.length : Int) :: s.l.ca.l) = N2 := ⟨_, rfl⟩
      rw [hN2] at H5 hL2
      have HN2 := hid hN2; have HL2 := hid hL2
      clear hw PL hN2 hL2 H4
      have S1 := hid (HK.out.grown H5.out.gr)
      have c30 := S1.out.cells.2.2.2.2.1
      go_wp2_with fail
      refine (lpolicy_any S1.out.law).mono ?_
      rintro e w2 ⟨rfl, rfl⟩
      go_wp2_with fail
      refine (palls_any S1.out.law.po).mono ?_
      rintro e W6 ⟨⟨v6, rfl, ho⟩, hg⟩
      have H6 := hid (H5.out.grown hg)
      obtain ⟨vw, hvw, -⟩ := H6.out.obj
      have PL := hid (wlist_any H6.out (xv := v6) (ns := s.l.po.l) (fun W' hW => (ho.byw hW hvw).ints) (by have h1 := HL2.out; have h2 := HPO.out; rw [pn_len]; omega))
      obtain ⟨p6, k6, rfl⟩ := ho.form
      clear ho hg hvw c30 S1 H5
      go_wp2_with fail
      refine PL.out.mono ?_
      rintro e W7 ⟨rfl, hw, -⟩
      rw [← pn_append] at hw
      have H7 := hid hw
      have hL3 : (N2 ++ ((s.l.po.l.length : Int) :: s.l.po.l)).length ≤ 347 := by have h1 := HL2.out; have h2 := HPO.out; rw [List.length_append, List.length_cons]; omega
      obtain ⟨N3, hN3⟩ : ∃ N3, N2 ++ ((s.l.po.l.length : Int) :: s.l.po.l) = N3 := ⟨_, rfl⟩
      rw [hN3] at H7 hL3
      have HN3 := hid hN3; have HL3 := hid hL3
      clear hw PL hN3 hL3 H6
      have S1 := hid (HK.out.grown H7.out.gr)
      have c30 := S1.out.cells.2.2.2.2.1
      have PK := hid (wput_lit H7.out [s.l.n] (by simp) (by have h1 := HL3.out; rw [pn_len]; simp only [List.length_cons, List.length_nil]; omega))
      go_wp2_with fail
      refine (lcount_any S1.out.law).mono ?_
      rintro e w2 ⟨rfl, rfl⟩
      clear c30 S1
      go_wp2_with fail
      refine PK.out.mono ?_
      rintro e W8 ⟨rfl, hw, -⟩
      rw [← pn_append] at hw
      have H8 := hid hw
      have hL4 : (N3 ++ [s.l.n]).length ≤ 348 := by have h1 := HL3.out; rw [List.length_append, List.length_singleton]; omega
      obtain ⟨N4, hN4⟩ : ∃ N4, N3 ++ [s.l.n] = N4 := ⟨_, rfl⟩
      rw [hN4] at H8 hL4
      have HN4 := hid hN4; have HL4 := hid hL4
      clear hw PK hN4 hL4 H7
      have PS := hid (putsa_any HK.out H8.out (by have := HT.out; omega) (by have h1 := HL4.out; rw [pn_len]; omega))
      go_wp2_with fail
      refine PS.out.mono ?_
      rintro e W9 ⟨rfl, hw⟩
      rw [← pn_append] at hw
      have H9 := hid hw
      have hL5 : (N4 ++ ((s.t.length : Int) :: s.t.flatMap saN)).length ≤ 2400 := by have h1 := HL4.out; have h2 := HT.out; rw [List.length_append, List.length_cons, saN_len]; omega
      obtain ⟨N5, hN5⟩ : ∃ N5, N4 ++ ((s.t.length : Int) :: s.t.flatMap saN) = N5 := ⟨_, rfl⟩
      rw [hN5] at H9 hL5
      have HN5 := hid hN5; have HL5 := hid hL5
      clear hw PS hN5 hL5 H8
      have PD := hid (putde_any HK.out H9.out HD.out (by have h1 := HL5.out; rw [pn_len]; omega))
      go_wp2_with fail
      refine PD.out.mono ?_
      rintro e W10 ⟨rfl, hw⟩
      rw [← pn_append] at hw
      have HF := hid (show s.nums = N5 ++ ((s.ds.length : Int) :: s.ds.flatMap deN) by
        unfold Ste.nums
        rw [HP.out, HN1.out, HN2.out, HN3.out, HN4.out, HN5.out])
      rw [← HF.out] at hw
      obtain ⟨vf, hvf, hof⟩ := hw.obj
      have GF := hid hw.gr; have OF := hid hof
      have c0 := at_cell hvf 0
      clear hw hof hvf PD H9
      obtain ⟨pf, kf, rfl⟩ := OF.out.form
      go_wp2_with fail
      go_ret
      exact ⟨_, rfl, OF.out.le (by have := LO.out; omega), GF.out⟩
end Go.Proofs.YtecggbndlbkhdaaGreat
end
section
set_option linter.unusedSimpArgs false
set_option linter.unusedVariables false
namespace Go.Proofs.YtecggbndlbkhdaaGreat
set_option maxRecDepth 100000
open Go.RowKit

theorem w64_nat {x : Int} (h : 0 ≤ x) : w64 x = BitVec.ofNat 64 x.toNat := by
  obtain ⟨n, rfl⟩ := Int.eq_ofNat_of_zero_le h
  unfold w64
  rw [Int.toNat_natCast]
  exact BitVec.ofInt_natCast 64 n
theorem pn_nat {ns : List Int} (h : ∀ x ∈ ns, 0 ≤ x) : pn ns = wb (ns.map Int.toNat) := by
  induction ns with
  | nil => rfl
  | cons a r ih =>
    rw [List.map_cons, wb_cons, ← ih fun x hx => h x (List.mem_cons_of_mem _ hx), ← w64_nat (h a (List.mem_cons_self ..))]
    rfl
theorem pn_flat {α : Type} {l : List α} {f : α → List Int} {g : α → List Nat} (h : ∀ a ∈ l, pn (f a) = wb (g a)) : pn (l.flatMap f) = wb (l.flatMap g) := by
  induction l with
  | nil => rfl
  | cons a r ih => rw [List.flatMap_cons, List.flatMap_cons, pn_append, wb_append, h a (List.mem_cons_self ..), ih fun x hx => h x (List.mem_cons_of_mem _ hx)]
theorem pn_row {l : List Int} (h : ∀ x ∈ l, 0 ≤ x) : pn ((l.length : Int) :: l) = wb (l.length :: l.map Int.toNat) := by
  have := pn_nat (ns := (l.length : Int) :: l) (fun x hx => by
    rcases List.mem_cons.1 hx with rfl | hx
    · omega
    · exact h x hx)
  rw [this, List.map_cons, Int.toNat_natCast]
theorem pn_rowf {α : Type} {l : List α} {f : α → List Int} {g : α → List Nat} (h : ∀ a ∈ l, pn (f a) = wb (g a)) : pn ((l.length : Int) :: l.flatMap f) = wb (l.length :: l.flatMap g) := by
  have e : (l.length : Int) :: l.flatMap f = [(l.length : Int)] ++ l.flatMap f := rfl
  rw [e, pn_append, pn_flat h, pn_nat (ns := [(l.length : Int)]) (fun x hx => by rw [List.mem_singleton.1 hx]; omega)]
  show wb [_] ++ _ = _
  rw [Int.toNat_natCast, ← wb_append]
  rfl
theorem pn_co {c : Conf} {s0 s : Ste} (hO : SuOf c s0) (hk : Ste.Ok s0 s) {i : Nat} (hi : i < s.p.n) : pn (s.coN i) = wb (kCo.ws (s.co i)) := by
  have hl : i < s.s.H.length := by rw [hk.sl, ← hk.p]; exact hi
  have hh := hk.sh _ (List.getElem_mem hl)
  have eg : s.s.H.getD i (true, 0) = s.s.H[i] := by rw [List.getD_eq_getElem?_getD, List.getElem?_eq_getElem hl]; rfl
  have e1 := hk.rok.e0 i; have e2 := hk.rok.s0 i; have e3 := (hk.nok i).t0; have e4 := (hk.ook i).t0
  have hs1 : 0 ≤ (standH (s.s.H[i])).1 := by unfold standH; split <;> first | exact Int.le_refl _ | exact hh.1
  have hs2 : 0 ≤ (standH (s.s.H[i])).2.1 := by unfold standH; split <;> first | exact Int.le_refl _ | exact hh.1
  rw [kCo_ws]
  unfold Ste.coN Ste.co
  dsimp only
  rw [eg]
  have b1 : ∀ b : BitVec 64, put8 (w64 (biN b)) = put8 (BitVec.ofNat 64 b.toNat) := fun b => by rw [w64_biN, BitVec.ofNat_toNat, BitVec.setWidth_eq]
  have b2 : ∀ b : Bool, w64 (if b = true then 1 else 0) = BitVec.ofNat 64 (if b = true then 1 else 0) := fun b => by cases b <;> rfl
  simp only [pn, List.flatMap_cons, List.flatMap_nil, wb_cons, wb_nil, w64_nat e1, w64_nat e2, w64_nat e3, w64_nat e4, w64_nat hs1, w64_nat hs2, b1, b2]
theorem pn_bytes {c : Conf} {s0 s : Ste} (hO : SuOf c s0) (hk : Ste.Ok s0 s) : pn s.nums = s.bytes := by
  have hmn : 0 ≤ s.l.po.r.mn := by have := hk.lok.po.r.mn; omega
  have hn := hk.lok.n
  have e1 : pn [s.now] = wb [s.now.toNat] := pn_nat fun x hx => by rw [List.mem_singleton.1 hx]; exact hk.n0
  have e2 := pn_flat (l := List.range s.p.n) (f := s.coN) (g := fun i => kCo.ws (s.co i)) fun i hi => pn_co hO hk (List.mem_range.1 hi)
  have e3 := pn_row (l := s.l.ca.l) fun x hx => (hk.lok.ca.m x hx).1
  have e4 := pn_row (l := s.l.po.l) fun x hx => by have := (hk.lok.po.m x hx).1; omega
  have e5 : pn [s.l.n] = wb [s.l.n.toNat] := pn_nat fun x hx => by rw [List.mem_singleton.1 hx]; omega
  have e6 := pn_rowf (l := s.t) (f := saN) (g := fun x => kSa.ws (saOf x)) fun x hx => by
    obtain ⟨⟨a1, a2, a3, a4, a5, a6⟩, ⟨a7, a8⟩, a9⟩ := hk.tb x hx
    have := hk.n0
    rw [kSa_ws]
    exact pn_nat fun y hy => by
      simp only [saN, List.mem_cons, List.not_mem_nil, or_false] at hy
      rcases hy with rfl | rfl | rfl | rfl <;> omega
  have e7 := pn_rowf (l := s.ds) (f := deN) (g := fun x => kDe.ws (deOf x)) fun x hx => by
    have h := hk.d x hx
    have h1 := h.ep; have h2 := h.rep; have h3 := h.want; have h4 := h.v0; have h5 := h.v1; have h6 := h.v2; have h7 := h.v3
    have hb : s.l.po.r = s0.l.po.r := by rw [hk.lr]
    rw [← hb] at h2
    rw [kDe_ws]
    have hh : deN x = [x.ep, x.rep, x.want, if x.hold = true then 1 else 0, x.v0, x.v1, x.v2, x.v3] := rfl
    rw [hh, pn_nat fun y hy => by
      simp only [List.mem_cons, List.not_mem_nil, or_false] at hy
      rcases hy with rfl | rfl | rfl | rfl | rfl | rfl | rfl | rfl
      all_goals first | omega | (split <;> decide)]
    congr 1
    unfold deOf
    simp only [List.map_cons, List.map_nil]
    cases x.hold <;> rfl
  unfold Ste.nums Ste.bytes
  rw [pn_append, pn_append, pn_append, pn_append, pn_append, pn_append, e1, e2, e3, e4, e5, e6, e7, Ste.ws_eq, List.flatMap_map, List.flatMap_map, List.flatMap_map]
  simp only [← wb_append]
  congr 1
  simp
/-- Bytes -/
theorem subytes_any {w : World} {X : SBl} {c : Conf} {s s0 : Ste} (hO : SuOf c s0) (hk : Ste.Ok s0 s) (hK : StAt w X c s) :
    Calls Tryz.prog 31 #[.pointer (some ⟨X.b, 0, none⟩)] w fun e w' => ∃ v, e = .returned v ∧ OwnB w.heap.size w' v s.bytes ∧ w.grownBy w' none := by
  have hpb := hk.pb
  have hp := hk.p
  have hl : s.t.length ≤ 512 := srt_len (now := s.now) hk.t fun x hx => by
    have h1 := hk.tb x hx
    have h3 := hO.base.fr
    omega
  have hca := hk.lok.ca
  have h1 := hca.n; have h2 := hca.u; have h3 := hca.d
  have hpo := hk.lok.po
  have h4 := hpo.n; have h5 := hpo.r.per
  have hw := (hk.win hO.tie).2.1
  have hm : s.l.ca.most ≤ 100 := by unfold Ca.most; omega
  have := subytes_walk hK (n := s0.p.n) hO.n (by rw [hp]) (by omega) (by rw [hw]; exact Nat.le_refl _) (by rw [hk.sl]; exact Nat.le_refl _) (by omega) (by omega) hl hk.dl
  rw [pn_bytes hO hk] at this
  exact this
end Go.Proofs.YtecggbndlbkhdaaGreat
end
section
set_option linter.unusedSimpArgs false
set_option linter.unusedVariables false
namespace Go.Proofs.YtecggbndlbkhdaaGreat
set_option maxRecDepth 100000
open Go.RowKit

/-- the next number, with its sign; 0 where there is none -/
def nxW (B : List UInt8) : BitVec 64 := if 8 ≤ B.length then wordAt B 0 8 else 0
def nx (B : List UInt8) : Int := biN (nxW B)
/-- the reader at rb: what is left; all that was in w is as it was -/
structure RdK (w : World) (rb : Nat) (B : List UInt8) (W : World) : Prop where
  gr : w.grownBy W none
  lo : w.heap.size ≤ rb
  obj : ∃ v, W.heap[rb]? = some (.cells #[v] 166) ∧ BytesAt w v B
theorem RdK.grown {w W W' : World} {rb : Nat} {B : List UInt8} (h : RdK w rb B W) (hg : W.grownBy W' none) : RdK w rb B W' := by
  obtain ⟨v, h1, h2⟩ := h.obj
  exact ⟨gb_trans h.gr hg (.inl rfl), h.lo, v, at_grown h1 hg (by simp), h2⟩
theorem RdK.drew {w W : World} {rb : Nat} {B : List UInt8} (h : RdK w rb B W) : RdK w rb B W.drew := by
  obtain ⟨v, h1, h2⟩ := h.obj
  exact ⟨gb_drew h.gr, h.lo, v, h1, h2⟩
/-- other blocks of the call's own may change -/
theorem RdK.chg {w W W' : World} {rb : Nat} {B : List UInt8} {F : List Nat} (h : RdK w rb B W) (hc : Chg F W W') (hF : ∀ x ∈ F, w.heap.size ≤ x ∧ x ≠ rb) : RdK w rb B W' := by
  obtain ⟨v, h1, h2⟩ := h.obj
  exact ⟨((chg_grown h.gr []).trans hc fun x hx => .inr (hF x hx).1).free (by simp), h.lo, v, hc.at h1 fun hm => (hF _ hm).2 rfl, h2⟩
theorem bytes_cut {w : World} {p : Option Addr} {n c k : Nat} {l : List UInt8} (h : BytesAt w (.slice p n c) l) (hk : k ≤ n) (p' : Option Addr) (hp : k < c → ∀ a, p = some a → p' = some (a.add k)) (hp0 : k = c → ∀ a, p = some a → p' = p) (hn : p = none → p' = none) : BytesAt w (.slice p' (n - k) (c - k)) (l.drop k) := by
  rcases h with ⟨e, rfl⟩ | ⟨a, cap, e, h1, h2, h3⟩
  · cases e
    have : k = 0 := by omega
    subst this
    rw [hn rfl]
    exact .inl ⟨rfl, rfl⟩
  · cases e
    have hl : (l.drop k).length = l.length - k := by rw [List.length_drop]
    by_cases hc : k < c
    · rw [hp hc a rfl]
      refine .inr ⟨_, c - k, by rw [hl], by omega, by omega, fun i hi => ?_⟩
      have h4 := h3 (k + i) (by rw [hl] at hi; omega)
      have e2 : (a.add k).add i = a.add (k + i) := by
        by_cases hk0 : k = 0 <;> by_cases hi0 : i = 0 <;> simp [Addr.add, hk0, hi0, Nat.add_assoc]
      rw [e2, h4]
      simp
    · rw [hp0 (by omega) a rfl]
      refine .inr ⟨a, c - k, by rw [hl], by omega, by omega, fun i hi => ?_⟩
      rw [hl] at hi; omega
theorem RdK.next {w W : World} {rb : Nat} {B B' : List UInt8} {v' : Value} (h : RdK w rb B W) (hb : BytesAt w v' B') : RdK w rb B' (W.setCell ⟨rb, 0, none⟩ v').drew ∧ Chg [rb] W (W.setCell ⟨rb, 0, none⟩ v').drew := by
  obtain ⟨v, h1, h2⟩ := h.obj
  have hs : Chg [rb] W (W.setCell ⟨rb, 0, none⟩ v').drew := ((chg_refl W _).set (.inl (by simp)) _).drew
  exact ⟨⟨((chg_grown h.gr []).trans hs fun x hx => .inr (by rw [List.mem_singleton.1 hx]; exact h.lo)).free (by simp), h.lo, v', at_set h1 0 v', hb⟩, hs⟩
theorem add_pos (a : Addr) (k : Nat) (hk : k ≠ 0) : a.add k = ⟨a.block, a.off + k, none⟩ := by simp [Addr.add, hk]
theorem bytes_fwd {w : World} {p : Option Addr} {n c k : Nat} {l : List UInt8} (h : BytesAt w (.slice p n c) l) (hk : k ≤ n) (hk0 : k ≠ 0) (hc : c ≠ k) : BytesAt w (.slice (Option.map (fun x => { block := x.block, off := x.off + k }) p) (n - k) (c - k)) (l.drop k) :=
  bytes_cut h hk _ (fun _ a e => by rw [e, add_pos a k hk0]; rfl) (fun e => absurd e.symm hc) (fun e => by rw [e]; rfl)
theorem bytes_all {w : World} {p : Option Addr} {n c k : Nat} {l : List UInt8} (h : BytesAt w (.slice p n c) l) (hk : k ≤ n) (hc : c = k) : BytesAt w (.slice p (n - k) (c - k)) (l.drop k) :=
  bytes_cut h hk p (fun e => absurd hc (by omega)) (fun _ _ _ => rfl) id
theorem bytes_none {w : World} {p p' : Option Addr} {n c : Nat} {l : List UInt8} (h : BytesAt w (.slice p n c) l) (hp : p = none → p' = none) (hs : ∀ a, p = some a → ∃ b, p' = some b) : BytesAt w (.slice p' 0 (c - n)) [] := by
  rcases h with ⟨e, rfl⟩ | ⟨a, cap, e, h1, h2, h3⟩
  · cases e
    rw [hp rfl]
    exact .inl ⟨rfl, rfl⟩
  · cases e
    obtain ⟨b, hb⟩ := hs a rfl
    rw [hb]
    exact .inr ⟨b, _, rfl, Nat.zero_le _, by omega, fun i hi => by simp at hi⟩
set_option maxHeartbeats 1600000 in
theorem next_fwd {w W : World} {rb n c : Nat} {p : Option Addr} {B : List UInt8} (h : RdK w rb B W) (hv : W.heap[rb]? = some (.cells #[.slice p n c] 166)) (hb : BytesAt w (.slice p n c) B) (hn : B.length = n) (h8 : 8 ≤ n) (hc : c ≠ 8) :
    Calls Tryz.prog 175 #[.pointer (some ⟨rb, 0, none⟩)] W fun e W' => e = .returned (.int .i64 (nx B)) ∧ RdK w rb (B.drop 8) W' ∧ Chg [rb] W W' := by
  have H0 := hid h
  have hle := hb.le
  rw [hn] at hle
  unfold maxLen at hle
  have GT := hid (get_in B (.slice p n c) 0 W (hb.grown h.gr (by simp)) (by omega))
  rw [show wordAt B 0 8 = nxW B by unfold nxW; rw [if_pos (by omega)]] at GT
  have hnc : n ≤ c := by
    rcases hb with ⟨e, h1⟩ | ⟨a, cap, e, h1, h2, h3⟩
    · cases e; omega
    · simp at e; omega
  have HB := hid (show BytesAt w (.slice (Option.map (fun x => { block := x.block, off := x.off + 8 }) p) (n - 8) (c - 8)) (B.drop 8) from bytes_fwd hb h8 (by decide) hc)
  have HF := hid (H0.out.next HB.out)
  have c0 := at_cell hv 0
  have f0 := at_free hv 0
  have hbi : IntKind.i64.wrap (q (nxW B)) = nx B := rfl
  have i3 : (8 : Int) ≤ (n : Int) := by omega
  have i4 : (8 : Int) ≤ (c : Int) := by omega
  have i2 : min (8 : Int) (n : Int) = 8 := by omega
  clear h hv hb
  go_enter Tryz.func175, Tryz.ntmps175
  go_wp2_with fail
  refine GT.out.mono ?_
  rintro e w2 ⟨rfl, rfl⟩
  go_upto_region 2 with fail
  go_region
  go_wp2_with fail
  go_ret
  exact ⟨rfl, HF.out.1, HF.out.2⟩
set_option maxHeartbeats 1600000 in
theorem next_all {w W : World} {rb : Nat} {p : Option Addr} {B : List UInt8} (h : RdK w rb B W) (hv : W.heap[rb]? = some (.cells #[.slice p 8 8] 166)) (hb : BytesAt w (.slice p 8 8) B) (hn : B.length = 8) :
    Calls Tryz.prog 175 #[.pointer (some ⟨rb, 0, none⟩)] W fun e W' => e = .returned (.int .i64 (nx B)) ∧ RdK w rb (B.drop 8) W' ∧ Chg [rb] W W' := by
  have H0 := hid h
  have GT := hid (get_in B (.slice p 8 8) 0 W (hb.grown h.gr (by simp)) (by omega))
  rw [show wordAt B 0 8 = nxW B by unfold nxW; rw [if_pos (by omega)]] at GT
  have HB := hid (show BytesAt w (.slice p 0 0) (B.drop 8) from bytes_all hb (Nat.le_refl 8) rfl)
  have HF := hid (H0.out.next HB.out)
  have c0 := at_cell hv 0
  have f0 := at_free hv 0
  have hbi : IntKind.i64.wrap (q (nxW B)) = nx B := rfl
  clear h hv hb
  go_enter Tryz.func175, Tryz.ntmps175
  go_wp2_with fail
  refine GT.out.mono ?_
  rintro e w2 ⟨rfl, rfl⟩
  go_upto_region 2 with fail
  go_region
  go_wp2_with fail
  go_ret
  exact ⟨rfl, HF.out.1, HF.out.2⟩
set_option maxHeartbeats 1600000 in
theorem next_end {w W : World} {rb n c : Nat} {p : Option Addr} {B : List UInt8} (h : RdK w rb B W) (hv : W.heap[rb]? = some (.cells #[.slice p n c] 166)) (hb : BytesAt w (.slice p n c) B) (hn : B.length = n) (h8 : n < 8) (hc : c ≠ n) :
    Calls Tryz.prog 175 #[.pointer (some ⟨rb, 0, none⟩)] W fun e W' => e = .returned (.int .i64 (nx B)) ∧ RdK w rb (B.drop 8) W' ∧ Chg [rb] W W' := by
  have H0 := hid h
  have hle := hb.le
  rw [hn] at hle
  unfold maxLen at hle
  have GT := hid (get_high p n c (by unfold maxLen; exact hle) 0 (Int.le_refl _) (by omega) W)
  have e0 : q (nxW B) = 0 := by unfold nxW; rw [if_neg (by omega)]; rfl
  have e1 : nx B = 0 := by unfold nx biN; rw [e0]; rfl
  have e2 : B.drop 8 = [] := List.drop_of_length_le (by omega)
  rw [e1, e2]
  have hnc : n ≤ c := by
    rcases hb with ⟨e, h1⟩ | ⟨a, cap, e, h1, h2, h3⟩
    · cases e; omega
    · simp at e; omega
  have HB := hid (show BytesAt w (.slice (Option.map (fun x => x.add n) p) 0 (c - n)) [] from bytes_none hb (fun e => by rw [e]; rfl) (fun a e => ⟨_, by rw [e]; rfl⟩))
  have HF := hid (H0.out.next HB.out)
  have c0 := at_cell hv 0
  have f0 := at_free hv 0
  have hbi : IntKind.i64.wrap 0 = 0 := rfl
  have i3 : (n : Int) ≤ (c : Int) := by omega
  have i4 : ¬ (8 : Int) ≤ (n : Int) := by omega
  have i2 : min (8 : Int) (n : Int) = (n : Int) := by omega
  clear h hv hb
  go_enter Tryz.func175, Tryz.ntmps175
  go_wp2_with fail
  refine GT.out.mono ?_
  rintro e w2 ⟨rfl, rfl⟩
  go_upto_region 2 with fail
  go_region
  go_wp2_with fail
  go_ret
  exact ⟨rfl, HF.out.1, HF.out.2⟩
set_option maxHeartbeats 1600000 in
theorem next_last {w W : World} {rb n : Nat} {p : Option Addr} {B : List UInt8} (h : RdK w rb B W) (hv : W.heap[rb]? = some (.cells #[.slice p n n] 166)) (hb : BytesAt w (.slice p n n) B) (hn : B.length = n) (h8 : n < 8) :
    Calls Tryz.prog 175 #[.pointer (some ⟨rb, 0, none⟩)] W fun e W' => e = .returned (.int .i64 (nx B)) ∧ RdK w rb (B.drop 8) W' ∧ Chg [rb] W W' := by
  have H0 := hid h
  have hle := hb.le
  rw [hn] at hle
  unfold maxLen at hle
  have GT := hid (get_high p n n (by unfold maxLen; exact hle) 0 (Int.le_refl _) (by omega) W)
  have e0 : q (nxW B) = 0 := by unfold nxW; rw [if_neg (by omega)]; rfl
  have e1 : nx B = 0 := by unfold nx biN; rw [e0]; rfl
  have e2 : B.drop 8 = [] := List.drop_of_length_le (by omega)
  rw [e1, e2]
  have HB := hid (show BytesAt w (.slice p 0 0) [] from by have := bytes_none hb id (fun a e => ⟨a, e⟩); rwa [Nat.sub_self] at this)
  have HF := hid (H0.out.next HB.out)
  have c0 := at_cell hv 0
  have f0 := at_free hv 0
  have hbi : IntKind.i64.wrap 0 = 0 := rfl
  have i4 : ¬ (8 : Int) ≤ (n : Int) := by omega
  have i2 : min (8 : Int) (n : Int) = (n : Int) := by omega
  clear h hv hb
  go_enter Tryz.func175, Tryz.ntmps175
  go_wp2_with fail
  refine GT.out.mono ?_
  rintro e w2 ⟨rfl, rfl⟩
  go_upto_region 2 with fail
  go_region
  go_wp2_with fail
  go_ret
  exact ⟨rfl, HF.out.1, HF.out.2⟩
/-- the next number -/
theorem sunext_any {w W : World} {rb : Nat} {B : List UInt8} (h : RdK w rb B W) :
    Calls Tryz.prog 175 #[.pointer (some ⟨rb, 0, none⟩)] W fun e W' => e = .returned (.int .i64 (nx B)) ∧ RdK w rb (B.drop 8) W' ∧ Chg [rb] W W' := by
  obtain ⟨v, hv, hb⟩ := h.obj
  obtain ⟨p, c, rfl⟩ := hb.form
  by_cases h8 : 8 ≤ B.length
  · by_cases hc : c = 8
    · have hn8 : B.length = 8 := by
        rcases hb with ⟨e, h1⟩ | ⟨a, cap, e, h1, h2, h3⟩
        · rw [h1] at h8; simp at h8
        · simp at e; omega
      subst hc
      rw [hn8] at hv hb
      exact next_all h hv hb hn8
    · exact next_fwd h hv hb rfl h8 hc
  · by_cases hc : c = B.length
    · subst hc; exact next_last h hv hb rfl (by omega)
    · exact next_end h hv hb rfl (by omega) hc
end Go.Proofs.YtecggbndlbkhdaaGreat
end
