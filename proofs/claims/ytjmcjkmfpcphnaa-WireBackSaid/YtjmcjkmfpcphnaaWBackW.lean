/-
  The walk of the statement WireBack: a message comes back from its bytes, and from these alone. The condition: the turn is a byte.
-/
import Derived.Test.YtjmcjkmfpcphnaaWKindsW
import Derived.Test.YtjmcjkmfpcphnaaUmod
import Derived.Deep.CutRange
set_option linter.unusedSimpArgs false
set_option linter.unusedVariables false
namespace Go.Proofs.Ytjmcjkmfpcphnaa.back
set_option maxRecDepth 100000
open Go.RowKit

theorem own_blk {base : Nat} {w : World} {v : Value} {l : List UInt8} (h : OwnB base w v l) (hl : 0 < l.length) :
    ∃ g c cur, v = .slice (some ⟨g, 0, none⟩) l.length c ∧ l.length ≤ c ∧ c ≤ maxLen ∧ base ≤ g ∧ w.heap[g]? = some (.cells cur 5) ∧ cur.toList.take l.length = l.map bv := by
  obtain ⟨_, h | ⟨g, cap, cur, rfl, hb, hh, h1, h2, h3, h4⟩⟩ := h
  · omega
  · exact ⟨g, cap, cur, rfl, h1, h2, hb, hh, by simpa using h4⟩
theorem bytes_blk {w : World} {g n c : Nat} {cur : Array Value} {l : List UInt8} (h : w.heap[g]? = some (.cells cur 5)) (hn : l.length = n) (hc : n ≤ c) (hm : c ≤ maxLen) (ht : cur.toList.take n = l.map bv) : BytesAt w (.slice (some ⟨g, 0, none⟩) n c) l := by
  refine .inr ⟨_, c, by rw [hn], by omega, hm, fun i hi => ?_⟩
  have e : (⟨g, 0, none⟩ : Addr).add i = ⟨g, i, none⟩ := by unfold Addr.add; split <;> simp_all
  rw [e, at_cell h i]
  have hc : cur.toList[i]? = (l.map bv)[i]? := by
    rw [← ht, List.getElem?_take]; simp [show i < n by omega]
  rw [← Array.getElem?_toList, hc]
  simp [List.getElem?_map, List.getElem?_eq_getElem hi, bv]
theorem u8_xor (a b : UInt8) : bits .xor .u8 (a.toNat : Int) (b.toNat : Int) = ((a ^^^ b).toNat : Int) := by
  show IntKind.u8.wrap ((BitVec.ofInt 8 (a.toNat : Int) ^^^ BitVec.ofInt 8 (b.toNat : Int)).toNat : Int) = _
  rw [BitVec.ofInt_natCast, BitVec.ofInt_natCast]
  have ha : BitVec.ofNat 8 a.toNat = a.toBitVec := by simp
  have hb : BitVec.ofNat 8 b.toNat = b.toBitVec := by simp
  rw [ha, hb]
  have h : ((a.toBitVec ^^^ b.toBitVec).toNat : Int) = ((a ^^^ b).toNat : Int) := by simp
  rw [h]
  have := (a ^^^ b).toNat_lt
  generalize (a ^^^ b).toNat = N at this ⊢
  have hw : IntKind.u8.wrap (N : Int) = (N : Int) % 256 := by simp [IntKind.wrap, IntKind.bits, IntKind.signed]
  rw [hw]; omega
/-- the bytes with one turned -/
def turned (l : List UInt8) (k : Nat) (t : UInt8) : List UInt8 := l.set k (byteAt l k ^^^ t)
theorem turned_length (l : List UInt8) (k : Nat) (t : UInt8) : (turned l k t).length = l.length := by simp [turned]
theorem turned_zero (l : List UInt8) (k : Nat) (h : k < l.length) : turned l k 0 = l := by
  unfold turned; rw [UInt8.xor_zero, byteAt_eq h]; simp
theorem turned_ne (l : List UInt8) (k : Nat) (h : k < l.length) {t : UInt8} (ht : t ≠ 0) : turned l k t ≠ l := by
  intro e
  have h1 : (turned l k t)[k]? = some (byteAt l k ^^^ t) := by unfold turned; rw [List.getElem?_set_self h]
  rw [e, List.getElem?_eq_getElem h, ← byteAt_eq h] at h1
  have h2 := Option.some.inj h1
  have : t = 0 := by
    have h3 : byteAt l k ^^^ byteAt l k = byteAt l k ^^^ (byteAt l k ^^^ t) := by rw [← h2]
    rw [UInt8.xor_self, ← UInt8.xor_assoc, UInt8.xor_self, UInt8.zero_xor] at h3
    exact h3.symm
  exact ht this
theorem cur_turned {cur : Array Value} {l : List UInt8} {k : Nat} {t y : UInt8} (h : cur.toList.take 32 = l.map bv) (hk : k < l.length) (hy : byteAt l k ^^^ t = y) :
    (cur.setIfInBounds k (.int .u8 (y.toNat : Int))).toList.take 32 = (turned l k t).map bv := by
  subst hy
  unfold turned
  rw [Array.toList_setIfInBounds, List.take_set, h, List.map_set]
  rfl
/-- what comes of the turned bytes -/
theorem turn_cases {m : Mg} (hm : mayOf m = true) (k : Nat) (hk : k < 32) (t : UInt8) :
    ∃ xm ic, gotM (turned (putOf m) k t) = xm ∧ gotC (turned (putOf m) k t) = ic ∧ ((t = 0 ∧ xm = m ∧ ic = 0) ∨ (t ≠ 0 ∧ ic = 2) ∨ (t ≠ 0 ∧ ic = 0 ∧ xm ≠ m)) := by
  by_cases ht : t = 0
  · subst ht
    rw [turned_zero _ _ (by rw [putOf_length]; exact hk)]
    have h := gotM_some (get_put (may_of hm))
    exact ⟨m, 0, h.1, h.2, .inl ⟨rfl, rfl, rfl⟩⟩
  · cases hg : getOf (turned (putOf m) k t) with
    | none => exact ⟨_, _, (gotM_none hg).1, (gotM_none hg).2, .inr (.inl ⟨ht, rfl⟩)⟩
    | some x =>
      refine ⟨_, _, (gotM_some hg).1, (gotM_some hg).2, .inr (.inr ⟨ht, rfl, fun e => ?_⟩)⟩
      have := (put_get hg).2
      rw [e] at this
      exact turned_ne _ k (by rw [putOf_length]; exact hk) ht this

set_option maxHeartbeats 6400000 in
theorem walk_no (m : Mg) (hm : mayOf m = false) (a : Int) (t : Int) (c : Int) (w : World) :
    Calls Try.prog 4 #[mg m, .int .i64 a, .int .u8 t, .int .i64 c] w fun e w' => e = .returned (.bool true) ∧ w.grownBy w' none := by
  have MA := hid (kinds.may_as m false hm)
  have PB := hid (fun w => wput_bad m hm w)
  have K0 := hid ((kp_start w).alloc (msgObj m)); clear hm
  go_enter Try.func4, Try.ntmps4
  go_wp2_with (first | refine wpList_row_w K0.out.b0 Try.underlying23 rfl (by kernel_rfl) rfl rfl rfl rfl ?_)
  refine (PB.out _).mono ?_
  rintro e w1 ⟨rfl, hg⟩
  have K1 := hid (K0.out.grown hg); clear hg
  go_wp2_with (first | refine wpList_row_w K1.out.b0 Try.underlying23 rfl (by kernel_rfl) rfl rfl rfl rfl ?_)
  refine (MA.out _).mono ?_
  rintro e w2 ⟨rfl, hg⟩
  have K2 := hid (K1.out.grown hg); clear hg
  go_wp2_with fail
  refine (told_any _).mono ?_
  rintro e w3 ⟨rfl, hg⟩
  have K3 := hid (K2.out.grown hg); clear hg
  go_wp2_with fail
  go_ret
  exact ⟨rfl, K3.out.g⟩

set_option maxHeartbeats 12800000 in
theorem walk_yes (m : Mg) (hm : mayOf m = true) (a : Int) (t : UInt8) (ct : Int) (k : Nat) (hk : k < 32) (ek : (IntKind.u64.wrap a).tmod 32 = (k : Int)) (xm : Mg) (ic : Int)
    (hx : gotM (turned (putOf m) k t) = xm) (hi : gotC (turned (putOf m) k t) = ic) (hcase : (t = 0 ∧ xm = m ∧ ic = 0) ∨ (t ≠ 0 ∧ ic = 2) ∨ (t ≠ 0 ∧ ic = 0 ∧ xm ≠ m)) (w : World) :
    Calls Try.prog 4 #[mg m, .int .i64 a, .int .u8 (t.toNat : Int), .int .i64 ct] w fun e w' => e = .returned (.bool true) ∧ w.grownBy w' none := by
  have MA := hid (kinds.may_as m true hm)
  have PG := hid (fun w => wput_good m hm w)
  have GO := hid (fun v w h => get_own m hm v w h)
  have K0 := hid ((kp_start w).alloc (msgObj m)); clear hm
  have hGT := fun v w h => get_all v (turned (putOf m) k t) w h
  rw [hx, hi] at hGT
  have GT := hid hGT; clear hGT hx hi
  have HK := hid ek; have HKK := hid hk; have HCS := hid hcase; clear ek hcase
  obtain ⟨l, hl⟩ : ∃ l, putOf m = l := ⟨_, rfl⟩
  have hll : l.length = 32 := by rw [← hl]; rfl
  rw [hl] at PG GO GT
  have LL := hid hll; clear hl hll
  go_enter Try.func4, Try.ntmps4
  go_wp2_with (first | refine wpList_row_w K0.out.b0 Try.underlying23 rfl (by kernel_rfl) rfl rfl rfl rfl ?_)
  refine (PG.out _).mono ?_
  rintro e w1 ⟨v, rfl, ho, hg⟩
  obtain ⟨pb, pc, cur, rfl, hpc, hpm, hbase, hblk, hcur⟩ := own_blk ho (by rw [LL.out]; decide)
  rw [LL.out] at hpc hcur ⊢
  have hlow : w.heap.size + 1 ≤ pb := by rw [← size_alloc w (msgObj m)]; exact hbase
  have hne : pb ≠ w.heap.size := by omega
  have K1 := hid ((K0.out.grown hg).add hblk); clear hg ho hbase hblk
  have HCUR := hid hcur; clear hcur
  have HPC := hid hpc; have HPM := hid hpm; have hpcI : (32 : Int) ≤ (pc : Int) := by omega
  have HLOW := hid hlow; clear hlow
  clear hpc
  go_wp2_with (first | refine wpList_row_w K1.out.b1 Try.underlying23 rfl (by kernel_rfl) rfl rfl rfl rfl ?_)
  refine (MA.out _).mono ?_
  rintro e w2 ⟨rfl, hg⟩
  have K2 := hid (K1.out.grown hg); clear hg K0 K1
  go_wp2_with fail
  refine (GO.out _ _ (bytes_blk K2.out.b0 LL.out HPC.out HPM.out HCUR.out)).mono ?_
  rintro e w3 ⟨rfl, hg⟩
  have K3 := hid ((K2.out.grown hg).alloc (msgObj m)); clear hg K2
  go_upto_region 7 with (first | refine wpList_row_w K3.out.b0 Try.underlying23 rfl (by kernel_rfl) rfl rfl rfl rfl ?_ | refine wpList_row_w K3.out.b2 Try.underlying23 rfl (by kernel_rfl) rfl rfl rfl rfl ?_)
  have K4 := hid K3.out.tail; clear K3
  refine wp_gen (fun wx => Kp w [(pb, .cells cur 5), (w.heap.size, msgObj m)] [] wx) K4.out ?_
  clear K4
  intro w4 h4
  have K4 := hid h4; clear h4
  obtain ⟨c, hc, ec⟩ := umod_small ct 32 (by omega)
  have ec' : (IntKind.u64.wrap ct).tmod 32 = (c : Int) := ec
  have c0 : (0 : Int) ≤ (c : Int) := by omega
  have c1 : (c : Int) < 32 := by omega
  have HC := hid hc
  clear ec hc
  go_wp2_with fail
  clear ec' c0 c1
  have hcl : (l.take c).length = c := by rw [List.length_take, LL.out]; have := HC.out; omega
  have HCL := hid hcl; clear hcl
  refine (wget_bad (some ⟨pb, 0, none⟩) c pc (by have := HC.out; omega) _).mono ?_
  rintro e w5 ⟨rfl, hg⟩
  have K5 := hid ((K4.out.grown hg).alloc (msgObj zeroM)).tail; clear hg K4
  go_upto_region 8 with fail
  refine wp_gen (fun wx => Kp w [(pb, .cells cur 5), (w.heap.size, msgObj m)] [] wx) K5.out ?_
  clear K5
  intro w6 h6
  have K6 := hid h6; clear h6
  have HE := hid (OwnB.empty w6)
  have B6 := hid ((bytes_blk K6.out.b0 LL.out HPC.out HPM.out HCUR.out).alloc (.cells #[] 5))
  have G6 := hid (K6.out.grown (World.grownBy_alloc w6 (.cells #[] 5) none))
  have hs6 : w6.heap.size ≤ (w6.alloc (.cells #[] 5)).heap.size := gb_size (gb_alloc (.refl w6 none) _)
  go_wp2_with (first
    | (refine append_bytes rfl _ _ rfl w6.heap.size _ [] rfl HE.out _ l rfl B6.out (by rw [LL.out]; simp) hs6 ?_; intro u1 w7 o1 g1 a1)
    | (refine append_bytes rfl _ _ rfl w6.heap.size _ ([] ++ l) rfl (OwnB.alloc o1 (.cells #[.int .u8 (t.toNat : Int)] 5)) _ [t] rfl (own_block [t] (at_new w7 _) (by unfold maxLen; simp) (Nat.le_refl _)).bytes (by rw [List.nil_append, LL.out]; simp) (Nat.le_trans hs6 (Nat.le_trans (gb_size g1) (gb_size (gb_alloc (.refl w7 none) _)))) ?_; intro u2 w8 o2 g2 a2))
  have K7 := G6.out.own HE.out g1 K6.out.size K6.out.low.1 K6.out.low.2
  have K8 := hid ((K7.grown (World.grownBy_alloc w7 _ none)).own (OwnB.alloc o1 (.cells #[.int .u8 (t.toNat : Int)] 5)) g2 K6.out.size K6.out.low.1 K6.out.low.2)
  obtain ⟨p2, c2, hf⟩ := o2.form
  subst hf
  clear K7 a1 a2 g1 g2 HE B6 G6 hs6
  refine (wget_bad p2 _ c2 (by rw [List.nil_append, List.length_append, LL.out]; simp) _).mono ?_
  clear o1 o2
  rintro e w9 ⟨rfl, hg⟩
  have K9 := hid ((K8.out.grown hg).alloc (msgObj zeroM)).tail; clear hg K8 K6
  go_upto_region 9 with fail
  refine wp_gen (fun wx => Kp w [(pb, .cells cur 5), (w.heap.size, msgObj m)] [] wx) K9.out ?_
  clear K9
  intro w10 h10
  have K10 := hid h10; clear h10
  have cell : w10.cell? ⟨pb, k, none⟩ = some (.int .u8 ((byteAt l k).toNat : Int)) := byte_cell (bytes_blk K10.out.b0 LL.out HPC.out HPM.out HCUR.out) k (by rw [LL.out]; exact hk) _ rfl
  have frz : w10.frozen? ⟨pb, k, none⟩ = false := at_free K10.out.b0 k
  have ek := HK.out
  have k0 : (0 : Int) ≤ (k : Int) := by omega
  have k1 : (k : Int) < 32 := by omega
  have hxor := u8_xor (byteAt l k) t
  obtain ⟨y, hy⟩ : ∃ y, byteAt l k ^^^ t = y := ⟨_, rfl⟩
  rw [hy] at hxor
  have HY := hid hy; clear hy
  go_upto_region 11 with fail
  have hcur2 := cur_turned (t := t) HCUR.out (by rw [LL.out]; exact hk) HY.out
  have hg10 : w10.grownBy (w10.setCell ⟨pb, k, none⟩ (.int .u8 (y.toNat : Int))) (some pb) := gb_row (.refl w10 (some pb)) rfl _
  have K11 : Kp w [(pb, .cells (cur.setIfInBounds k (.int .u8 (y.toNat : Int))) 5), (w.heap.size, msgObj m)] [] (w10.setCell ⟨pb, k, none⟩ (.int .u8 (y.toNat : Int))) :=
    ((⟨gb_new K10.out.g (show w.heap.size ≤ pb by have := HLOW.out; omega) _, (fun x hx => by cases hx), (fun x hx => by cases hx)⟩ : Kp w [] [] _).add (at_set_other K10.out.b1 (Ne.symm hne) _)).add (at_set K10.out.b0 k _)
  have K12 := hid K11
  have HC2 := hid hcur2
  clear K11 hcur2 hg10 cell frz ek k0 k1 hxor K10
  refine wp_gen (fun wx => Kp w [(pb, .cells (cur.setIfInBounds k (.int .u8 (y.toNat : Int))) 5), (w.heap.size, msgObj m)] [] wx) K12.out ?_
  clear K12
  intro w11 h11
  have K11 := hid h11; clear h11
  have hlt : (turned l k t).length = 32 := (turned_length l k t).trans LL.out
  have BT := hid (bytes_blk K11.out.b0 hlt HPC.out HPM.out HC2.out)
  clear hlt
  go_wp2_with fail
  refine (GT.out _ _ BT.out).mono ?_
  rintro e w12 ⟨rfl, hg⟩
  have K12 := hid ((K11.out.grown hg).alloc (msgObj xm)); clear hg BT
  go_upto_region 12 with fail
  refine wp_gen (fun wx => Kp w [(w12.heap.size, msgObj xm), (pb, .cells (cur.setIfInBounds k (.int .u8 (y.toNat : Int))) 5), (w.heap.size, msgObj m)] [] wx) K12.out ?_
  clear K12 K11
  intro w13 h13
  have K13 := hid h13; clear h13
  generalize w12.heap.size = z at K13 ⊢
  go_wp2_with fail
  refine (told_any _).mono ?_
  rintro e w14 ⟨rfl, hg⟩
  have K14 := hid (K13.out.grown hg); clear hg K13
  rcases HCS.out with ⟨ht, hxm, hic⟩ | ⟨ht, hic⟩ | ⟨ht, hic, hxm⟩
  · subst hxm
    subst hic
    have h0 : ((t.toNat : Int)) = 0 := by rw [ht]; rfl
    clear ht
    go_wp2_with (first | refine wpList_row_w K14.out.b0 Try.underlying23 rfl (by kernel_rfl) rfl rfl rfl rfl ?_ | refine wpList_row_w K14.out.b2 Try.underlying23 rfl (by kernel_rfl) rfl rfl rfl rfl ?_)
    go_ret
    exact ⟨rfl, K14.out.g⟩
  · subst hic
    have h0 : ¬ ((t.toNat : Int)) = 0 := fun e => ht (UInt8.toNat_inj.1 (by have : t.toNat = 0 := by omega
                                                                            rw [this]; rfl))
    have h1 : ((t.toNat : Int) == 0) = false := beq_eq_false_iff_ne.2 h0
    clear ht
    go_wp2_with (first | refine wpList_row_w K14.out.b0 Try.underlying23 rfl (by kernel_rfl) rfl rfl rfl rfl ?_ | refine wpList_row_w K14.out.b2 Try.underlying23 rfl (by kernel_rfl) rfl rfl rfl rfl ?_)
    go_ret
    exact ⟨rfl, K14.out.g⟩
  · subst hic
    have h0 : ¬ ((t.toNat : Int)) = 0 := fun e => ht (UInt8.toNat_inj.1 (by have : t.toNat = 0 := by omega
                                                                            rw [this]; rfl))
    have h1 : ((t.toNat : Int) == 0) = false := beq_eq_false_iff_ne.2 h0
    have hme := fun w => msg_equal xm m w
    rw [msgEq_ne hxm] at hme
    clear ht hxm
    go_wp2_with (first | refine wpList_row_w K14.out.b0 Try.underlying23 rfl (by kernel_rfl) rfl rfl rfl rfl ?_ | refine wpList_row_w K14.out.b2 Try.underlying23 rfl (by kernel_rfl) rfl rfl rfl rfl ?_)
    go_ret
    exact ⟨rfl, K14.out.g⟩

theorem walk (m : Mg) (a : Int) (t : UInt8) (ct : Int) {w : World} :
    Calls Try.prog 4 #[mg m, .int .i64 a, .int .u8 (t.toNat : Int), .int .i64 ct] w fun e w' => e = .returned (.bool true) ∧ w.grownBy w' none := by
  cases hm : mayOf m
  · exact walk_no m hm a _ ct w
  · obtain ⟨k, hk, ek⟩ := umod_small a 32 (by omega)
    obtain ⟨xm, ic, hx, hi, hc⟩ := turn_cases hm k hk t
    exact walk_yes m hm a t ct k hk ek xm ic hx hi hc w
end Go.Proofs.Ytjmcjkmfpcphnaa.back
