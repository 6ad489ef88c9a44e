/-
  A cell's bytes as the program lays them: its first and last eight bytes as numbers; three copies into one block; what a walk keeps of it. No condition.
-/
import Derived.Test.YtjebmlmjbnaghaaLgB
import Derived.Laws.CopyRow
set_option linter.unusedSimpArgs false
set_option linter.unusedVariables false
namespace Go.Proofs.Ytjebmlmjbnaghaa
set_option maxRecDepth 100000
open Go.RowKit

theorem or_shl (x y : BitVec 64) (i : Nat) (hx : x.toNat < 2 ^ i) (hy : y.toNat * 2 ^ i < 2 ^ 64) : (x ||| y <<< i).toNat = x.toNat + y.toNat * 2 ^ i := by
  rw [BitVec.toNat_or, BitVec.toNat_shiftLeft, Nat.shiftLeft_eq, Nat.mod_eq_of_lt hy, Nat.or_comm, ← Nat.shiftLeft_eq, ← Nat.shiftLeft_add_eq_or_of_lt hx, Nat.shiftLeft_eq, Nat.add_comm]
theorem of_nat64 {n : Nat} (h : n < 18446744073709551616) : (BitVec.ofInt 64 (n : Int)).toNat = n := by
  rw [BitVec.toNat_ofInt]; omega
theorem byte_is (x : BitVec 64) (i n : Nat) (h : x.toNat / 2 ^ (8 * i) % 256 = n % 256) : putByte x i = u8 n := by
  unfold putByte
  apply UInt8.toNat_inj.1
  rw [BitVec.toNat_ushiftRight, Nat.shiftRight_eq_div_pow, u8_nat]
  simp only [UInt8.toNat_ofNat']
  exact h
theorem headW_nat {p Q K n : Nat} (hp : p < 4294967296) (hQ : Q < 65536) (hK : K < 256) (hn : n < 256) : (headW p Q K n).toNat = p + Q * 4294967296 + K * 281474976710656 + n * 72057594037927936 := by
  have a := of_nat64 (n := p) (by omega); have b := of_nat64 (n := Q) (by omega); have c := of_nat64 (n := K) (by omega); have d := of_nat64 (n := n) (by omega)
  unfold headW
  have e1 := or_shl (BitVec.ofInt 64 (p : Int)) (BitVec.ofInt 64 (Q : Int)) 32 (by rw [a]; omega) (by rw [b]; omega)
  rw [a, b] at e1
  have e2 := or_shl (BitVec.ofInt 64 (p : Int) ||| BitVec.ofInt 64 (Q : Int) <<< 32) (BitVec.ofInt 64 (K : Int)) 48 (by rw [e1]; omega) (by rw [c]; omega)
  rw [e1, c] at e2
  have e3 := or_shl (BitVec.ofInt 64 (p : Int) ||| BitVec.ofInt 64 (Q : Int) <<< 32 ||| BitVec.ofInt 64 (K : Int) <<< 48) (BitVec.ofInt 64 (n : Int)) 56 (by rw [e2]; omega) (by rw [d]; omega)
  rw [e2, d] at e3
  rw [e3]
theorem tailW_nat {s m : Nat} (hs : s < 4294967296) (hm : m < 256) : (tailW s m).toNat = s + m * 72057594037927936 := by
  have a := of_nat64 (n := s) (by omega); have b := of_nat64 (n := m) (by omega)
  unfold tailW
  have e1 := or_shl (BitVec.ofInt 64 (s : Int)) (BitVec.ofInt 64 (m : Int)) 56 (by rw [a]; omega) (by rw [b]; omega)
  rw [e1, a, b]
theorem put8_head {c : Cl} (h : c.May) : put8 (headW c.pass c.place c.kind c.data.length) = head8 c := by
  have := h.p2; have := h.q; have := h.k2; have := h.d
  have hn := headW_nat (p := c.pass) (Q := c.place) (K := c.kind) (n := c.data.length) (by omega) (by omega) (by omega) (by omega)
  have e := fun i n h => byte_is (headW c.pass c.place c.kind c.data.length) i n h
  rw [hn] at e
  unfold put8 head8 b4
  rw [e 0 c.pass (by simp; omega), e 1 (c.pass / 256) (by simp; omega), e 2 (c.pass / 65536) (by simp; omega), e 3 (c.pass / 16777216) (by simp; omega), e 4 c.place (by simp; omega), e 5 (c.place / 256) (by simp; omega), e 6 c.kind (by simp; omega), e 7 c.data.length (by simp; omega)]
  rfl
theorem put8_tail {s m : Nat} (hs : s < 4294967296) (hm : m < 256) : put8 (tailW s m) = tail8 s m := by
  have hn := tailW_nat hs hm
  have e := fun i n h => byte_is (tailW s m) i n h
  rw [hn] at e
  unfold put8 tail8 b4
  rw [e 0 s (by simp; omega), e 1 (s / 256) (by simp; omega), e 2 (s / 65536) (by simp; omega), e 3 (s / 16777216) (by simp; omega), e 4 0 (by simp; omega), e 5 0 (by simp; omega), e 6 0 (by simp; omega), e 7 m (by simp; omega)]
  rfl

/-- bytes over others from a place on -/
def overL (L l : List UInt8) (o : Nat) : List UInt8 := L.take o ++ l ++ L.drop (o + l.length)
theorem overL_len {L l : List UInt8} {o : Nat} (h : o + l.length ≤ L.length) : (overL L l o).length = L.length := by
  unfold overL; rw [List.length_append, List.length_append, List.length_take, List.length_drop]; omega
theorem over1 (a : List UInt8) (ha : a.length = 8) : overL (List.replicate 64 0) a 0 = a ++ List.replicate 56 0 := by
  unfold overL; rw [List.take_zero, List.nil_append, ha, List.drop_replicate]
theorem over2 (a d : List UInt8) (ha : a.length = 8) (hd : d.length ≤ 48) : overL (a ++ List.replicate 56 0) d 8 = a ++ d ++ List.replicate (56 - d.length) 0 := by
  unfold overL
  rw [List.take_left' ha, List.drop_append, List.drop_of_length_le (by omega), List.nil_append, List.drop_replicate, ha]
  congr 2; omega
theorem over_front (a d : List UInt8) (ha : a.length = 8) (hd : d.length ≤ 48) : (a ++ d ++ List.replicate (56 - d.length) 0).take 56 = a ++ (d ++ List.replicate (48 - d.length) 0) := by
  have e : List.replicate (56 - d.length) (0 : UInt8) = List.replicate (48 - d.length) 0 ++ List.replicate 8 0 := by rw [List.replicate_append_replicate]; congr 1; omega
  rw [e, ← List.append_assoc, List.take_left' (by simp; omega), List.append_assoc]
theorem over3 (a d t : List UInt8) (ha : a.length = 8) (hd : d.length ≤ 48) (ht : t.length = 8) : overL (a ++ d ++ List.replicate (56 - d.length) 0) t 56 = a ++ (d ++ List.replicate (48 - d.length) 0) ++ t := by
  unfold overL
  rw [over_front a d ha hd, List.drop_of_length_le (by simp; omega), List.append_nil]

/-- bytes into a block that is known whole -/
theorem copy_blk {w : World} {b : Nat} {L : List UInt8} (hb : w.heap[b]? = some (.cells (L.map bv).toArray 5)) {v : Value} {l : List UInt8} (hv : BytesAt w v l) {o n c : Nat} (hn : l.length ≤ n) (ho : o + l.length ≤ L.length) (ty : TypeId) :
    ∃ w', (Builtin.copy_ #[23, 23] ty #[.slice (some ⟨b, o, none⟩) n c, v]).run Try.prog w = .ok (goInt l.length) w' ∧ w'.heap[b]? = some (.cells ((overL L l o).map bv).toArray 5) ∧ Chg [b] w w' := by
  obtain ⟨i, hi, hz0, hz1, hz2⟩ := info_parts info_u8
  have hsz : (Try.prog.info? 5).map (·.size) = some 1 := by rw [hi]; simp [hz1]
  rcases hv with ⟨rfl, rfl⟩ | ⟨a, cap, rfl, h1, h2, h3⟩
  · refine ⟨w, run_copy_nil Try.prog w 23 23 ty 5 ⟨b, o, none⟩ n c Try.underlying23 (by rw [hi]; rfl), ?_, chg_refl _ _⟩
    unfold overL
    simpa using hb
  · have hmin : (l.map bv).length = Nat.min l.length n := by rw [List.length_map]; exact (Nat.min_eq_left hn).symm
    refine ⟨_, (run_copy_row Try.prog w 23 23 ty 5 b o n c a l.length cap _ _ (l.map bv) Try.underlying23 hsz hb hmin (fun j x hj => ?_) (by rw [List.length_map]; simp only [List.size_toArray, List.length_map]; omega) (fun x hx => ?_)).trans (by rw [List.length_map]), ?_, ?_⟩
    · rw [List.getElem?_map] at hj
      by_cases hlt : j < l.length
      · rw [List.getElem?_eq_getElem hlt] at hj; cases hj; exact h3 j hlt
      · rw [List.getElem?_eq_none (by omega)] at hj; cases hj
    · obtain ⟨c, _, rfl⟩ := List.mem_map.1 hx; rfl
    · rw [setRow_heap w b _ _ _ _ hb]
      unfold overL
      simp [List.map_append, List.map_take, List.map_drop]
    · exact ⟨rfl, rfl, rfl, by simp [World.setRow], fun k hk hn => setRow_other w b k _ (by intro e; exact hn (by simp [e]))⟩
theorem wp_copyB {w : World} {o : Oper} {a : Act} {K : Act → World → Prop} {Q : Exit → Act → World → Prop} (d s : Operand)
    (ho : o.op = .call { callee := .builtin .copy, args := #[d, s], argTypes := #[23, 23] }) (v u : Value) (hd : a.eval d = v) (hs : a.eval s = u) {v' : Value} {w' : World}
    (hr : (Builtin.copy_ #[23, 23] o.type #[v, u]).run Try.prog w = .ok v' w') (h : K (a.put o.dst v') w') : o.wp Try.prog a w K Q := by
  unfold Oper.wp execOp
  simp only [ho, resolve, invoke, builtin, Sem.run_bind, Sem.run_pure, Result.andThen_ok, List.map_toArray, List.map_cons, List.map_nil, hd, hs, hr]
  exact h
/-- sip's bytes of a number -/
theorem put_bytes {w : World} {b : Nat} (n : BitVec 64) (h : w.heap[b]? = some (.cells (putArr n 8) 5)) : BytesAt w (.slice (some ⟨b, 0, none⟩) 8 8) (put8 n) :=
  .inr ⟨_, 8, rfl, Nat.le_refl _, by unfold maxLen; decide, putArr_at n h⟩

/-- what Put keeps: the cell that came in, in a block; the sector's bytes so far -/
structure Pk (w : World) (cs : Array Value) (g : Nat) (L : List UInt8) (W : World) : Prop where
  gr : w.grownBy W none
  box : W.heap[w.heap.size]? = some (.cells cs 31)
  blk : W.heap[g]? = some (.cells (L.map bv).toArray 5)
  lt : w.heap.size < g
section
variable {w W W' : World} {cs : Array Value} {g : Nat} {L L' : List UInt8}
theorem Pk.grown (H : Pk w cs g L W) (hg : W.grownBy W' none) : Pk w cs g L W' := ⟨gb_trans H.gr hg (.inl rfl), at_grown H.box hg (by simp), at_grown H.blk hg (by simp), H.lt⟩
theorem Pk.drew (H : Pk w cs g L W) : Pk w cs g L W.drew := ⟨gb_drew H.gr, H.box, H.blk, H.lt⟩
theorem Pk.chg (H : Pk w cs g L W) (hb : W'.heap[g]? = some (.cells (L'.map bv).toArray 5)) (hc : Chg [g] W W') : Pk w cs g L' W' :=
  ⟨((chg_grown H.gr []).trans hc (fun y hy => by simp at hy; subst hy; exact .inr (Nat.le_of_lt H.lt))).free (fun y hy => by cases hy), hc.at H.box (by have := H.lt; simp; omega), hb, H.lt⟩
theorem Pk.copy (H : Pk w cs g L W) {v : Value} {l : List UInt8} (hv : BytesAt W v l) {o n c : Nat} (hn : l.length ≤ n) (ho : o + l.length ≤ L.length) (hL : overL L l o = L') (ty : TypeId) :
    ∃ W', (Builtin.copy_ #[23, 23] ty #[.slice (some ⟨g, o, none⟩) n c, v]).run Try.prog W = .ok (goInt l.length) W' ∧ Pk w cs g L' W' := by
  obtain ⟨W', h1, h2, h3⟩ := copy_blk H.blk hv hn ho ty
  rw [hL] at h2
  exact ⟨W', h1, H.chg h2 h3⟩
theorem Pk.cells {a b c d : Value} (H : Pk w #[a, b, c, d] g L W) : W.cell? ⟨w.heap.size, 0, none⟩ = some a ∧ W.cell? ⟨w.heap.size, 1, none⟩ = some b ∧ W.cell? ⟨w.heap.size, 2, none⟩ = some c ∧ W.cell? ⟨w.heap.size, 3, none⟩ = some d :=
  ⟨at_cell H.box 0, at_cell H.box 1, at_cell H.box 2, at_cell H.box 3⟩
theorem Pk.own (H : Pk w cs g L W) (h : L.length = 64) : OwnB w.heap.size W (.slice (some ⟨g, 0, none⟩) 64 64) L := by
  have := own_block (base := w.heap.size) L H.blk (by rw [h]; unfold maxLen; decide) (Nat.le_of_lt H.lt)
  rwa [h] at this
theorem Pk.front (H : Pk w cs g L W) (h : L.length = 64) {k : Nat} (hk : k ≤ 64) : BytesAt W (.slice (some ⟨g, 0, none⟩) k 64) (L.take k) := by
  rcases (own_block (base := w.heap.size) L H.blk (by rw [h]; unfold maxLen; decide) (Nat.le_of_lt H.lt)).bytes with ⟨e, _⟩ | ⟨a, c, e, h1, h2, h3⟩
  · cases e
  · cases e
    refine .inr ⟨⟨g, 0, none⟩, 64, by rw [List.length_take, Nat.min_eq_left (by omega)], by rw [List.length_take]; omega, by unfold maxLen; decide, fun i hi => ?_⟩
    rw [List.length_take] at hi
    rw [h3 i (by omega), List.getElem_take]
end
end Go.Proofs.Ytjebmlmjbnaghaa
