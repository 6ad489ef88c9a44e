/-
  Contracts: a sector of one byte as the law makes it; what a walk keeps of a disk of the call's own and of bytes beside it. No condition.
-/
import Derived.Test.YtjjlakekjihnoaaSeC
set_option linter.unusedSimpArgs false
set_option linter.unusedVariables false
namespace Go.Proofs.Ytjjlakekjihnoaa
set_option maxRecDepth 100000
open Go.RowKit

@[reducible] def rep (c : UInt8) : List UInt8 := List.replicate 64 c
theorem rep_len (c : UInt8) : (rep c).length = 64 := by simp
@[reducible] def fillC (c : UInt8) (k : Nat) : Array Value := ((List.replicate k c ++ List.replicate (64 - k) 0).map bv).toArray
theorem fill_step (c : UInt8) (k : Nat) (h : k < 64) : (fillC c k).setIfInBounds k (bv c) = fillC c (k + 1) := by
  unfold fillC
  rw [List.setIfInBounds_toArray]
  congr 1
  apply List.ext_getElem?
  intro i
  rw [List.getElem?_set]
  simp only [List.getElem?_map, List.getElem?_append, List.getElem?_replicate, List.length_replicate, List.length_map, List.length_append]
  repeat' split
  all_goals first | rfl | omega | (simp_all; done) | (exfalso; omega)
theorem fill_end (c : UInt8) : fillC c 64 = ((rep c).map bv).toArray := by unfold fillC; simp
theorem fill_start (c : UInt8) : madeCells #[Value.int .u8 0] 64 = fillC c 0 := by
  apply Array.ext'
  rw [toList_madeCells_one]
  simp [fillC, bv]
theorem fill_cell (c : UInt8) (k : Nat) (h : k < 64) : ∃ x, (fillC c k)[k]? = some x := ⟨_, Array.getElem?_eq_getElem (by unfold fillC; simp; omega)⟩
theorem mk_bytes (n : Nat) (hn : n ≤ 64) (u : World) : (Instr.makeSlice 27 (.int .i64 (n : Int)) (.int .i64 (n : Int))).run Try.prog u = .ok (.slice (some ⟨u.heap.size, 0, none⟩) n n) (u.alloc (.cells (madeCells #[.int .u8 0] n) 5)) := by
  obtain ⟨i, hi, hz0, hz1, hz2⟩ := info_parts info_u8
  have := run_makeSlice (P := Try.prog) u 27 5 i _ Try.underlying27 hi hz0 .i64 .i64 (n : Int) (n : Int) (by omega) (Int.le_refl _) (by rw [hz1]; omega) (by rw [hz2]; omega) (by omega)
  rw [this, hz1]
  simp [Value.cells]
set_option maxHeartbeats 1600000 in
theorem filled_any (c : UInt8) (w : World) :
    Calls Try.prog 11 #[bv c] w fun e w' => e = .returned (.slice (some ⟨w.heap.size, 0, none⟩) 64 64) ∧ w'.heap[w.heap.size]? = some (.cells ((rep c).map bv).toArray 5) ∧ w.grownBy w' none := by
  have hm := mk_bytes 64 (Nat.le_refl _) w
  rw [fill_start c] at hm
  rw [show ((64 : Nat) : Int) = 64 from rfl] at hm
  have L0 := hid (at_new w (.cells (fillC c 0) 5))
  have G0 := hid (World.grownBy_alloc w (.cells (fillC c 0) 5) none)
  have FS := hid (fill_step c)
  have FE := hid (fill_end c)
  have FK := hid (fill_cell c)
  obtain ⟨g, hg⟩ : ∃ g, g = w.heap.size := ⟨_, rfl⟩
  have HG := hid (show w.heap.size ≤ g by omega)
  rw [← hg] at hm L0 ⊢
  unfold bv at *
  generalize w.alloc (.cells (fillC c 0) 5) = w0 at *
  generalize fillC c = F at *
  generalize (rep c).map (fun c : UInt8 => Value.int .u8 (c.toNat : Int)) = R at *
  clear hg
  go_enter Try.func11, Try.ntmps11
  go_wp2_with fail
  go_loopw [4] (fun i wr => ∃ k : Nat, k ≤ 64 ∧ i = .int .i64 (k : Int) ∧ wr.heap[g]? = some (.cells (F k) 5) ∧ w.grownBy wr none) (fun i _ => 64 - (intOf i).toNat)
  case atStart => exact ⟨0, Nat.zero_le _, rfl, L0.out, G0.out⟩
  case round =>
    obtain ⟨k, hk, rfl, hrow, hgr⟩ := hrel
    have HR := hid hrow; have HGR := hid hgr; clear hrow hgr
    by_cases hlt : k < 64
    · have hlt' : (k : Int) < 64 := by omega
      have hk0 : (0 : Int) ≤ (k : Int) := by omega
      have fz := at_free HR.out k
      obtain ⟨x, hx⟩ := FK.out k hlt
      have hc : wr.cell? ⟨g, k, none⟩ = some x := by rw [at_cell HR.out, hx]
      clear hx
      go_wp2_with fail
      go_roundw
      case rel => exact ⟨k + 1, by omega, by go_num, by rw [at_set HR.out, FS.out k hlt], gb_new HGR.out (by exact HG.out) _⟩
      case measure => simp [intOf]; omega
    · have hk2 : k = 64 := by omega
      subst hk2
      go_wp2_with fail
      go_ret
      exact ⟨rfl, by rw [← FE.out]; exact HR.out, HGR.out⟩

structure Sk (w : World) (b s : Nat) (d : Dk) (L : List (Value × List UInt8)) (W : World) : Prop where
  gr : w.grownBy W none
  dk : DkAt W b s d
  lb : w.heap.size ≤ b
  ls : w.heap.size ≤ s
  rd : ∀ p ∈ L, BytesAt W p.1 p.2 ∧ ∀ a n c, p.1 = .slice (some a) n c → a.block ∉ [b, s]
section
variable {w W W' : World} {b s : Nat} {d d' : Dk} {L : List (Value × List UInt8)} {v : Value} {l : List UInt8} {p p1 p2 : Value × List UInt8}
theorem Sk.start (h : DkAt W' b s d) (hg : W.grownBy W' none) (h1 : W.heap.size ≤ b) (h2 : W.heap.size ≤ s) (g0 : w.grownBy W none) : Sk w b s d [] W' :=
  ⟨gb_trans g0 hg (.inl rfl), h, Nat.le_trans g0.size h1, Nat.le_trans g0.size h2, fun p hp => by cases hp⟩
theorem Sk.grown (h : Sk w b s d L W) (hg : W.grownBy W' none) : Sk w b s d L W' :=
  ⟨gb_trans h.gr hg (.inl rfl), h.dk.grown hg, h.lb, h.ls, fun p hp => ⟨(h.rd p hp).1.grown hg (by simp), (h.rd p hp).2⟩⟩
theorem Sk.drew (h : Sk w b s d L W) : Sk w b s d L W.drew := ⟨gb_drew h.gr, h.dk.drew, h.lb, h.ls, h.rd⟩
theorem Sk.alloc (h : Sk w b s d L W) (o : Obj) : Sk w b s d L (W.alloc o) := h.grown (World.grownBy_alloc W o none)
theorem Sk.chg (h : Sk w b s d L W) (hd : DkAt W' b s d') (hc : Chg [b, s] W W') : Sk w b s d' L W' :=
  ⟨((chg_grown h.gr []).trans hc (fun y hy => by simp at hy; rcases hy with rfl | rfl <;> first | exact .inr h.lb | exact .inr h.ls)).free (fun y hy => by cases hy), hd, h.lb, h.ls, fun p hp => ⟨(h.rd p hp).1.chg hc (h.rd p hp).2, (h.rd p hp).2⟩⟩
theorem Sk.add (h : Sk w b s d L W) (hb : BytesAt W v l) (hs : ∀ a n c, v = .slice (some a) n c → a.block ∉ [b, s]) : Sk w b s d ((v, l) :: L) W := ⟨h.gr, h.dk, h.lb, h.ls, fun q hq => by
  rcases List.mem_cons.1 hq with rfl | hq
  · exact ⟨hb, hs⟩
  · exact h.rd q hq⟩
/-- bytes of the call's own, made behind the disk -/
theorem Sk.own (h : Sk w b s d L W) (hg : W.grownBy W' none) (ho : OwnB W.heap.size W' v l) : Sk w b s d ((v, l) :: L) W' :=
  (h.grown hg).add ho.bytes fun a n c e => by
    have := (ho.at a n c e).1; have := h.dk.ltb; have := h.dk.lts
    simp; omega
theorem Sk.tl (h : Sk w b s d (p :: L) W) : Sk w b s d L W := ⟨h.gr, h.dk, h.lb, h.ls, fun q hq => h.rd q (List.mem_cons_of_mem _ hq)⟩
theorem Sk.r0 (h : Sk w b s d ((v, l) :: L) W) : BytesAt W v l := (h.rd _ (List.mem_cons_self ..)).1
theorem Sk.r1 (h : Sk w b s d (p :: (v, l) :: L) W) : BytesAt W v l := h.tl.r0
theorem Sk.r2 (h : Sk w b s d (p :: p1 :: (v, l) :: L) W) : BytesAt W v l := h.tl.r1
theorem Sk.filled (h : Sk w b s d L W) (c : UInt8) : Calls Try.prog 11 #[bv c] W fun e w' => ∃ v, e = .returned v ∧ Sk w b s d ((v, rep c) :: L) w' := by
  refine (filled_any c W).mono ?_
  rintro e w' ⟨rfl, hr, hg⟩
  have ho := own_block (base := W.heap.size) (rep c) hr (by unfold maxLen; simp) (Nat.le_refl _)
  rw [rep_len] at ho
  exact ⟨_, rfl, h.own hg ho⟩
theorem Sk.fill (h : Sk w b s d L W) (c : UInt8) {C : Int} (hC : (c.toNat : Int) = C) : Calls Try.prog 11 #[.int .u8 C] W fun e w' => ∃ v, e = .returned v ∧ Sk w b s d ((v, rep c) :: L) w' := by
  subst hC; exact h.filled c
theorem Sk.write (h : Sk w b s d ((v, l) :: L) W) (a : Int) (hn : d.n < 1000000000) {z : Int} (hz : d.code a l = z) (hd : d.write a l = d') :
    Calls Try.prog 10 #[.pointer (some ⟨b, 0, none⟩), .int .i64 a, v] W fun e w' => e = .returned (.int .i64 z) ∧ Sk w b s d' L w' := by
  subst hz; subst hd
  refine (write_any v l a h.dk hn h.r0 (.inr (h.rd _ (List.mem_cons_self ..)).2)).mono ?_
  rintro e w' ⟨rfl, hd, hc⟩
  exact ⟨rfl, h.tl.chg hd hc⟩
theorem Sk.read (h : Sk w b s d L W) (a : Int) {x : List UInt8} {z : Int} (hx : readL d a = x) (hz : readC d a = z) :
    Calls Try.prog 13 #[.pointer (some ⟨b, 0, none⟩), .int .i64 a] W fun e w' => ∃ u, e = .returned (.tuple #[u, .int .i64 z]) ∧ OwnB W.heap.size w' u x ∧ W.grownBy w' none ∧ Sk w b s d ((u, x) :: L) w' := by
  subst hx; subst hz
  refine (read_any a h.dk).mono ?_
  rintro e w' ⟨u, rfl, ho, hg⟩
  exact ⟨u, rfl, ho, hg, h.own hg ho⟩
theorem Sk.tear (h : Sk w b s d L W) (n : Int) (hd : d.tear n = d') : Calls Try.prog 9 #[.pointer (some ⟨b, 0, none⟩), .int .i64 n] W fun e w' => e = .returned (.tuple #[]) ∧ Sk w b s d' L w' := by
  subst hd
  refine (tear_any n h.dk).mono ?_
  rintro e w' ⟨rfl, hd, hc⟩
  exact ⟨rfl, h.chg hd hc⟩
theorem Sk.up (h : Sk w b s d L W) (hd : d.up = d') : Calls Try.prog 12 #[.pointer (some ⟨b, 0, none⟩)] W fun e w' => e = .returned (.tuple #[]) ∧ Sk w b s d' L w' := by
  subst hd
  refine (up_any h.dk).mono ?_
  rintro e w' ⟨rfl, hd, hc⟩
  exact ⟨rfl, h.chg hd hc⟩
theorem Sk.spoil (h : Sk w b s d L W) (a p : Int) (t : UInt8) {z T : Int} (hT : (t.toNat : Int) = T) (hz : d.scode a p = z) (hd : d.spoil a p t = d') :
    Calls Try.prog 21 #[.pointer (some ⟨b, 0, none⟩), .int .i64 a, .int .i64 p, .int .u8 T] W fun e w' => e = .returned (.int .i64 z) ∧ Sk w b s d' L w' := by
  subst hz; subst hd; subst hT
  refine (spoil_any a p t h.dk).mono ?_
  rintro e w' ⟨rfl, hd, hc⟩
  exact ⟨rfl, h.chg hd hc⟩
theorem Sk.down (h : Sk w b s d L W) {z : Bool} (hz : d.down = z) : Calls Try.prog 15 #[.pointer (some ⟨b, 0, none⟩)] W fun e w' => e = .returned (.bool z) ∧ W = w' := by
  subst hz; exact down_any h.dk
theorem Sk.writes (h : Sk w b s d L W) {z : Int} (hz : (d.n : Int) = z) : Calls Try.prog 16 #[.pointer (some ⟨b, 0, none⟩)] W fun e w' => e = .returned (.int .i64 z) ∧ W = w' := by
  subst hz; exact writes_any h.dk
theorem Sk.len (h : Sk w b s d L W) {z : Int} (hz : (d.l.length : Int) = z) : Calls Try.prog 26 #[.pointer (some ⟨b, 0, none⟩)] W fun e w' => e = .returned (.int .i64 z) ∧ W = w' := by
  subst hz; exact len_any h.dk
end
/-- a slice of the call's own that is not empty: its block, its bytes -/
theorem OwnB.whole {base : Nat} {w : World} {v : Value} {l : List UInt8} (h : OwnB base w v l) {n : Nat} (hn : l.length = n) (hl : 0 < n) : ∃ g c, v = .slice (some ⟨g, 0, none⟩) n c ∧ n ≤ c ∧ c ≤ maxLen ∧ base ≤ g ∧ g < w.heap.size := by
  subst hn
  obtain ⟨_, h | ⟨g, cap, cur, rfl, hb, hh, h1, h2, _⟩⟩ := h
  · omega
  · exact ⟨g, cap, rfl, h1, h2, hb, at_lt hh⟩
theorem byte_at {w : World} {g n c : Nat} {l : List UInt8} (h : BytesAt w (.slice (some ⟨g, 0, none⟩) n c) l) (i : Nat) (hi : i < l.length) : w.cell? ⟨g, i, none⟩ = some (.int .u8 ((l.getD i 0).toNat : Int)) := by
  rcases h with ⟨h, _⟩ | ⟨a, cap, e, _, _, h3⟩
  · cases h
  · cases e
    have := h3 i hi
    have e : (⟨g, 0, none⟩ : Addr).add i = ⟨g, i, none⟩ := by unfold Addr.add; split <;> simp_all
    rw [e] at this
    rw [this, List.getD_eq_getElem?_getD, List.getElem?_eq_getElem hi]; rfl
theorem nil_bytes (w : World) : BytesAt w (.slice none 0 0) [] := .inl ⟨rfl, rfl⟩
end Go.Proofs.Ytjjlakekjihnoaa
