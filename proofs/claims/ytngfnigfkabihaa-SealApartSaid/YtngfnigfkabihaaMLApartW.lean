/-
  The walk of the statement SealApart: two collectors seal the same message each under its own key. No condition.
-/
import Derived.Test.YtngfnigfkabihaaZ5
import Derived.Deep.CutRange
set_option linter.unusedSimpArgs false
set_option linter.unusedVariables false
namespace Go.Proofs.Ytngfnigfkabihaa.apart
set_option maxRecDepth 100000
open Go.RowKit

theorem kp_cell {w0 w : World} {bs : List (Nat × Obj)} {ys : List (Value × List UInt8)} {b : Nat} {old : Array Value} {t : TypeId} (h : Kp w0 ((b, .cells old t) :: bs) ys w) (i : Nat) (v : Value) (hb : w0.heap.size ≤ b) (hne : ∀ x ∈ bs, x.1 ≠ b) (hy : ∀ x ∈ ys, x.2 = [] ∨ ∀ a n c, x.1 = .slice (some a) n c → a.block ≠ b) :
    Kp w0 ((b, .cells (old.setIfInBounds i v) t) :: bs) ys (w.setCell ⟨b, i, none⟩ v) := by
  refine ⟨gb_new h.g hb _, fun x hx => ?_, fun x hx => (h.yl x hx).grown (gb_row (.refl w _) rfl v) (fun k e => by cases e; exact .inr (hy x hx))⟩
  rcases List.mem_cons.1 hx with rfl | hx
  · exact at_set h.b0 i v
  · exact at_set_other (h.bl x (List.mem_cons_of_mem _ hx)) (hne x hx) _
def mx (x e v : Int) : Mg := ⟨1, x, 0, 1, e, v, 1⟩
theorem mx_may {x e v : Int} (x0 : 0 ≤ x) (x1 : x < 16) (e0 : 0 ≤ e) (e1 : e < 1099511627776) (v0 : 0 ≤ v) (v1 : v < 1099511627776) : mayOf (mx x e v) = true := by
  exact may_sample ⟨x0, by omega, by decide, by decide, by decide, by decide, e0, by omega, by decide, by decide, v0, by omega⟩
theorem samp_x (seed : BitVec 64) {x e v : Int} (x0 : 0 ≤ x) (x1 : x < 16) (e0 : 0 ≤ e) (e1 : e < 1099511627776) (v0 : 0 ≤ v) (v1 : v < 1099511627776) {w : World} {b : Nat} (H : SlAt 83 w b (.new seed x)) :
    Calls Try.prog 13 #[.pointer (some ⟨b, 0, none⟩), .int .i64 1, .int .i64 e, .int .i64 v] w (LeavesS w b (sealOf (ofOf seed x 0).a (ofOf seed x 0).b (mx x e v)) 0 ⟨seed, x, 0, 1⟩) := by
  have h := ssample_yes (s := Sl.new seed x) 1 e v (mx_may x0 x1 e0 e1 v0 v1) w H
  exact h

set_option maxHeartbeats 6400000 in
theorem walk (seed : BitVec 64) (a b epoch value : Int) {w : World} :
    Calls Try.prog 5 #[.int .u64 (q seed), .int .i64 a, .int .i64 b, .int .i64 epoch, .int .i64 value] w fun e w' => e = .returned (.bool true) ∧ w.grownBy w' none := by
  obtain ⟨x, x0, x1, ex⟩ := umod_int a 16 (by omega)
  obtain ⟨y, y0, y1, ey⟩ := umod_int b 16 (by omega)
  obtain ⟨e, e0, e1, ee⟩ := umod_int epoch 1099511627776 (by omega)
  obtain ⟨v, v0, v1, ev⟩ := umod_int value 1099511627776 (by omega)
  replace ex : (IntKind.u64.wrap a).tmod 16 = x := ex
  replace ey : (IntKind.u64.wrap b).tmod 16 = y := ey
  replace ee : (IntKind.u64.wrap epoch).tmod 1099511627776 = e := ee
  replace ev : (IntKind.u64.wrap value).tmod 1099511627776 = v := ev
  replace x1 : x < 16 := x1
  replace y1 : y < 16 := y1
  replace e1 : e < 1099511627776 := e1
  replace v1 : v < 1099511627776 := v1
  have hm1 := mx_may x0 x1 e0 e1 v0 v1
  have hm2 := mx_may y0 y1 e0 e1 v0 v1
  have he : ∀ w, (Op.equalIn 10000 46 (mg (mx x e v)) (mg (mx x e v))).run Try.prog w = .ok true w := fun w => by rw [msg_equal, msgEq_self]
  have NX := hid (fun w => snew_ok seed x x0 (by omega) w)
  have NY := hid (fun w => snew_ok seed y y0 (by omega) w)
  have RX := hid (fun w => rsnew_ok seed x x0 (by omega) w)
  have SX := hid (fun w b h => @samp_x seed x e v x0 x1 e0 e1 v0 v1 w b h)
  have SY := hid (fun w b h => @samp_x seed y e v y0 y1 e0 e1 v0 v1 w b h)
  have hset : ∀ t, Obj.cells ((mx y e v).cells.setIfInBounds 1 (.int .i64 x)) t = Obj.cells (mx x e v).cells t := fun _ => rfl
  have w1' : (mx x e v).who = x := rfl
  have w2' : (mx x e v).cells[1]? = some (.int .i64 x) := rfl
  have HS := hid hset; have W2 := hid w2'; clear hset w1' w2'
  have hsame : x = y → sealOf (ofOf seed y 0).a (ofOf seed y 0).b (mx y e v) = sealOf (ofOf seed x 0).a (ofOf seed x 0).b (mx x e v) := fun h => by rw [h]
  have P1 := hid (fun v' w h => split_own (mx x e v) hm1 (ofOf seed x 0).a (ofOf seed x 0).b v' w h)
  have P2 := hid (fun v' w h => split_own (mx y e v) hm2 (ofOf seed y 0).a (ofOf seed y 0).b v' w h)
  generalize sumOf (ofOf seed x 0).a (ofOf seed x 0).b (putOf (mx x e v)) = ta at P1
  generalize sumOf (ofOf seed x 0).b (inv (ofOf seed x 0).a) (putOf (mx x e v)) = tb at P1
  generalize sumOf (ofOf seed y 0).a (ofOf seed y 0).b (putOf (mx y e v)) = tc at P2
  generalize sumOf (ofOf seed y 0).b (inv (ofOf seed y 0).a) (putOf (mx y e v)) = td at P2
  generalize putOf (mx x e v) = px at P1
  generalize putOf (mx y e v) = py at P2
  generalize sealOf (ofOf seed x 0).a (ofOf seed x 0).b (mx x e v) = lx at P1 SX hsame
  generalize sealOf (ofOf seed y 0).a (ofOf seed y 0).b (mx y e v) = ly at P2 SY hsame
  generalize mx x e v = m1 at he P1 W2 HS
  generalize mx y e v = m2 at P2 HS
  have hcx := fun w v (h : BytesAt w v lx) => conv_bytes h
  have hcy := fun w v (h : BytesAt w v ly) => conv_bytes h
  have hstr : x = y → (⟨ly.toArray⟩ : ByteArray) = ⟨lx.toArray⟩ := fun h => by rw [hsame h]
  generalize (⟨lx.toArray⟩ : ByteArray) = sx at hcx hstr
  generalize (⟨ly.toArray⟩ : ByteArray) = sy at hcy hstr
  have CX := hid hcx; have CY := hid hcy; have HSTR := hid hstr; have HE := hid he; clear hcx hcy hstr hsame hm1 hm2 he
  go_enter Try.func5, Try.ntmps5
  go_wp2_with fail
  refine (NX.out _).mono ?_
  rintro ed w1 ⟨b1, rfl, hs1, hg1, hb1⟩
  have A1 := hid hs1; have G1 := hid hg1; have B1 := hid hb1; clear hs1 hg1 hb1
  go_wp2_with fail
  refine (NY.out _).mono ?_
  rintro ed w2 ⟨b2, rfl, hs2, hg2, hb2⟩
  have A2 := hid (A1.out.grown hg2); have C2 := hid hs2; have G2 := hid (gb_trans G1.out hg2 (.inl rfl)); have B2 := hid (show w.heap.size ≤ b2 ∧ b1 < b2 from ⟨Nat.le_trans (gb_size G1.out) hb2, Nat.lt_of_lt_of_le A1.out.lt hb2⟩)
  clear hs2 hg2 hb2 A1 G1
  go_wp2_with fail
  refine (SX.out _ _ A2.out).mono ?_
  rintro ed w3 ⟨p, rfl, ho, hs, hc⟩
  have G3 := hid (gb_chg G2.out B1.out hc)
  have C3 := hid (C2.out.chg hc (by have := B2.out.2; simp; omega))
  have O3 := hid (ho.le C2.out.lt); clear ho hs hc G2 A2 C2
  go_wp2_with fail
  refine (SY.out _ _ C3.out).mono ?_
  rintro ed w4 ⟨q', rfl, ho, hs, hc⟩
  have k4 : Kp w [] [(q', ly), (p, lx)] w4 := ⟨gb_chg G3.out B2.out.1 hc, (fun _ h => by cases h), fun z hz => by
    rcases List.mem_cons.1 hz with rfl | hz
    · exact ho.bytes
    · rcases List.mem_singleton.1 hz with rfl
      exact (O3.out.chg hc (fun y hy => by rcases List.mem_singleton.1 hy with rfl; exact Nat.lt_succ_self _)).bytes⟩
  have K4 := hid k4; clear k4 ho hs hc G3 C3 O3 B1 B2 SX SY NX NY
  go_wp2_with fail
  refine (P1.out _ _ K4.out.y1).mono ?_
  rintro ed w5 ⟨u1, rfl, ho, hg⟩
  have k5 := ((K4.out.grown hg).alloc (msgObj m1)).alloc (tagObj ta tb)
  rw [size_alloc] at k5
  have K5 := hid k5.tail; clear k5 ho hg K4
  go_upto_region 9 with fail
  refine wp_gen (fun wx => Kp w [(w5.heap.size, msgObj m1)] [(q', ly), (p, lx)] wx) K5.out ?_
  clear K5
  generalize w5.heap.size + 1 = t2
  generalize w5.heap.size = t1
  intro w6 h6
  have K6 := hid h6; clear h6
  go_wp2_with fail
  refine (P2.out _ _ K6.out.y0).mono ?_
  rintro ed w7 ⟨u2, rfl, ho, hg⟩
  have k6 := K6.out.grown hg
  have k7 := (k6.alloc (msgObj m2)).alloc (tagObj tc td)
  have hlo : w.heap.size ≤ w7.heap.size := k6.size
  have hn1 : t1 < w7.heap.size := at_lt k6.b0
  rw [size_alloc] at k7
  have K7 := hid k7.tail; have LO := hid hlo; have N1 := hid (show ∀ x ∈ [(t1, msgObj m1)], x.1 ≠ w7.heap.size from fun x hx => by rcases List.mem_singleton.1 hx with rfl; exact Nat.ne_of_lt hn1)
  have N2 := hid (show ∀ x ∈ [(q', ly), (p, lx)], x.2 = [] ∨ ∀ a n c, x.1 = .slice (some a) n c → a.block ≠ w7.heap.size from fun x hx => (k6.low.2 x hx).imp id fun f a n c ea => Nat.ne_of_lt (f a n c ea))
  clear k6 k7 ho hg K6 hlo hn1
  go_upto_region 10 with fail
  refine wp_gen (fun wx => Kp w [(w7.heap.size, msgObj m2), (t1, msgObj m1)] [(q', ly), (p, lx)] wx) K7.out ?_
  clear K7
  generalize w7.heap.size + 1 = t4
  generalize w7.heap.size = t3 at LO N1 N2 ⊢
  intro w8 h8
  have c1 : w8.cell? ⟨t1, 1, none⟩ = some (.int .i64 x) := (at_cell h8.b1 1).trans W2.out
  have c3 : w8.cell? ⟨t3, 1, none⟩ = some (.int .i64 m2.who) := at_cell h8.b0 1
  have f3 : w8.frozen? ⟨t3, 1, none⟩ = false := at_free h8.b0 1
  have k9 : Kp w [(t3, msgObj m1), (t1, msgObj m1)] [(q', ly), (p, lx)] (w8.setCell ⟨t3, 1, none⟩ (.int .i64 x)) := by
    have z := kp_cell h8 1 (.int .i64 x) LO.out N1.out N2.out
    rw [HS.out] at z
    exact z
  have K9 := hid k9; clear k9 h8
  go_upto_region 11 with fail
  refine wp_gen (fun wx => Kp w [(t3, msgObj m1), (t1, msgObj m1)] [(q', ly), (p, lx)] wx) K9.out ?_
  clear K9 c1 c3 f3
  intro w9 h9
  have K9 := hid h9; clear h9
  go_wp2_with fail
  refine (told_any _).mono ?_
  rintro ed w10 ⟨rfl, hg⟩
  have K10 := hid (K9.out.grown hg); clear hg K9
  have c1 : w10.cell? ⟨t1, 1, none⟩ = some (.int .i64 x) := (at_cell K10.out.b1 1).trans W2.out
  have cx := CX.out _ _ K10.out.y1
  have cy := CY.out _ _ K10.out.y0
  have he := HE.out
  by_cases hxy : x = y
  · have d : (x != y) = false := by simpa using hxy
    rw [HSTR.out hxy] at cy
    clear hxy HSTR
    go_wp2_with (first | refine wpList_row_w K10.out.b0 Try.underlying46 rfl (by kernel_rfl) rfl rfl rfl rfl ?_ | refine wpList_row_w K10.out.b1 Try.underlying46 rfl (by kernel_rfl) rfl rfl rfl rfl ?_)
    refine (RX.out _).mono ?_
    rintro ed w11 ⟨b3, rfl, hs, hg, hb⟩
    have G := hid (gb_trans K10.out.g hg (.inl rfl)); clear hs hg hb
    go_wp2_with fail
    go_ret
    exact ⟨rfl, G.out⟩
  · have d : (x != y) = true := by simpa using hxy
    clear hxy HSTR
    go_wp2_with (first | refine wpList_row_w K10.out.b0 Try.underlying46 rfl (by kernel_rfl) rfl rfl rfl rfl ?_ | refine wpList_row_w K10.out.b1 Try.underlying46 rfl (by kernel_rfl) rfl rfl rfl rfl ?_)
    refine (RX.out _).mono ?_
    rintro ed w11 ⟨b3, rfl, hs, hg, hb⟩
    have G := hid (gb_trans K10.out.g hg (.inl rfl)); clear hs hg hb
    go_wp2_with fail
    go_ret
    exact ⟨rfl, G.out⟩
end Go.Proofs.Ytngfnigfkabihaa.apart
