/-
  Rows of samples that the call itself makes and appends to; standings one by one. No condition.
-/
import Derived.Test.YtogmibmkkmbgoaaScR
set_option linter.unusedSimpArgs false
set_option linter.unusedVariables false
namespace Go.Proofs.Ytogmibmkkmbgoaa
set_option maxRecDepth 100000
open Go.RowKit

/-- a row in a block of samples -/
def RowB (W : World) (v : Value) (l : List Sm) : Prop := ∃ g o c cs, v = .slice (some ⟨g, o, none⟩) l.length c ∧ W.heap[g]? = some (.cells cs 40) ∧ SAt W v l
theorem RowB.chg {W W' : World} {v : Value} {l : List Sm} {F : List Nat} (h : RowB W v l) (hc : Chg F W W') (hF : ∀ x ∈ F, ∀ cs, W.heap[x]? ≠ some (.cells cs 40)) : RowB W' v l := by
  obtain ⟨g, o, c, cs, rfl, hb, hs⟩ := h
  have hg : g ∉ F := fun hm => hF g hm cs hb
  exact ⟨g, o, c, cs, rfl, hc.at hb hg, hs.chg hc (fun x hx => by cases hx; exact hg)⟩
theorem RowB.grown {W W' : World} {v : Value} {l : List Sm} (h : RowB W v l) (hg : W.grownBy W' none) : RowB W' v l := h.chg (chg_grown hg []) (by simp)
/-- rows of the call's own -/
def OwnR (base : Nat) (w : World) (v : Value) (l : List Value) : Prop := w.ownsRow base 38 1 v l.length l
theorem OwnR.nil (base : Nat) (w : World) : OwnR base w (.slice none 0 0) [] := ⟨rfl, .inl ⟨rfl, rfl⟩⟩
theorem OwnR.form {base : Nat} {w : World} {v : Value} {l : List Value} (h : OwnR base w v l) : ∃ p c, v = .slice p l.length c := by
  obtain ⟨_, h | ⟨g, cap, cur, rfl, _⟩⟩ := h
  · exact ⟨none, 0, by rw [h.1, h.2]⟩
  · exact ⟨_, _, rfl⟩
theorem OwnR.at {base : Nat} {w : World} {v : Value} {l : List Value} (h : OwnR base w v l) : ∀ g, v.ownBlock = some g → base ≤ g ∧ ∃ cs : Array Value, w.heap[g]? = some (.cells cs 38) := by
  intro g hg
  obtain ⟨_, h | ⟨g', cap, cur, rfl, hb, hh, _⟩⟩ := h
  · rw [h.1] at hg; simp [Value.ownBlock] at hg
  · simp [Value.ownBlock] at hg
    subst hg
    exact ⟨hb, cur, hh⟩
theorem OwnR.chg {base : Nat} {w w1 : World} {F : List Nat} {v : Value} {l : List Value} (h : OwnR base w v l) (hc : Chg F w w1) (hF : ∀ g, v.ownBlock = some g → g ∉ F) : OwnR base w1 v l := by
  obtain ⟨h0, h | ⟨g, cap, cur, rfl, hb, hh, h1⟩⟩ := h
  · exact ⟨h0, .inl h⟩
  · exact ⟨h0, .inr ⟨g, cap, cur, rfl, hb, hc.at hh (hF g rfl), h1⟩⟩
theorem OwnR.grown {base : Nat} {w w1 : World} {v : Value} {l : List Value} (h : OwnR base w v l) (hg : w.grownBy w1 none) : OwnR base w1 v l := h.chg (chg_grown hg []) (by simp)
theorem OwnR.rows {base : Nat} {w : World} {v : Value} {L : List (Value × List Sm)} (h : OwnR base w v (L.map Prod.fst)) (hr : ∀ x ∈ L, RowB w x.1 x.2) : RowsS w v L := by
  obtain ⟨h0, h | ⟨g, cap, cur, e, _, hh, h1, h2, h3, h4⟩⟩ := h
  · exact .inl ⟨h.1, by have := h.2; rw [List.length_map] at this; exact List.eq_nil_of_length_eq_zero this⟩
  · rw [List.length_map] at e h1 h4
    refine .inr ⟨g, 0, cap, e, h1, h2, fun i hi => ⟨?_, ?_⟩⟩
    · rw [Nat.zero_add, at_cell hh i, ← Array.getElem?_toList]
      have : (cur.toList.take (L.length * 1))[i]? = (L.map Prod.fst)[i]? := by rw [h4]
      rw [List.getElem?_take, if_pos (by omega)] at this
      rw [this, List.getElem?_map, List.getElem?_eq_getElem hi]; rfl
    · obtain ⟨_, _, _, _, _, _, hs⟩ := hr L[i] (List.getElem_mem hi)
      exact hs
theorem info_rows : (Try.prog.info? 38).map (fun i => (i.zero, i.size, i.bytes)) = some (some (.slice none 0 0), 1, 24) := by kernel_rfl
/-- append of one row -/
theorem append_row {w : World} {ops : Array Oper} {rest : List Oper} {o : Oper} {a : Act} {Q : Exit → Act → World → Prop} (hgd : o.guard = none) (s x : Operand)
    (ho : o.op = .call { callee := .builtin .append, args := #[s, x], argTypes := #[43, 43] })
    (base : Nat) (v : Value) (l : List Value) (hs : a.eval s = v) (hown : OwnR base w v l) (g : Nat) (p : Option Addr) (n c : Nat) (hx : a.eval x = .slice (some ⟨g, 0, none⟩) 1 1) (hr : w.cell? ⟨g, 0, none⟩ = some (.slice p n c))
    (hlen : l.length + 1 ≤ 1000000) (hbase : base ≤ w.heap.size)
    (h : ∀ v' w', OwnR base w' v' (l ++ [.slice p n c]) → w.grownBy w' v.ownBlock → (v'.ownBlock = v.ownBlock ∨ v'.ownBlock = some w.heap.size) → wpList Try.prog ops Q rest (a.put o.dst v') w') : wpList Try.prog ops Q (o :: rest) a w := by
  obtain ⟨i, hi, hz0, hz1, hz2⟩ := info_parts info_rows
  refine wpList_append_own_at w hgd s x 43 ho base 38 i (.slice none 0 0) 1 24 Try.underlying43 hi hz0 hz1 hz2 rfl (by omega) v l.length l hs hown ⟨g, 0, none⟩ 1 1 [.slice p n c] hx (by simp)
    (fun j y hj => by
      cases j with
      | zero => cases hj; exact hr
      | succ j => cases hj)
    (fun y hy => by simp at hy; subst hy; rfl)
    (by unfold maxLen; omega) (by omega) hbase ?_
  intro v' w' h1 h2 _ h3
  refine h v' w' ?_ h2 h3
  unfold OwnR
  rw [List.length_append]
  exact h1
set_option maxHeartbeats 800000 in
/-- standings that are the same -/
theorem same_stds {w : World} {za zb : Nat} {H : List Hd} (ha : w.heap[za]? = some (.cells (flatZ H).toArray 45)) (hb : w.heap[zb]? = some (.cells (flatZ H).toArray 45)) (hH : H.length ≤ 16) :
    Calls Try.prog 26 #[.slice (some ⟨za, 0, none⟩) H.length H.length, .slice (some ⟨zb, 0, none⟩) H.length H.length] w fun e w' => e = .returned (.bool true) ∧ w.grownBy w' none := by
  have HA := hid ha
  have HB := hid hb
  obtain ⟨n, hn⟩ : ∃ n, H.length = n := ⟨_, rfl⟩
  have HN := hid hn
  rw [hn] at hH ⊢
  clear ha hb hn
  go_enter Try.func26, Try.ntmps26
  go_wp2_with fail
  go_loopw [5] (fun i wr => ∃ (k : Nat), k ≤ n ∧ i = .int .i64 (k : Int) ∧ w.grownBy wr none)
    (fun i _ => n - (intOf i).toNat)
  case atStart => exact ⟨0, Nat.zero_le _, rfl, .refl _ _⟩
  case round =>
    obtain ⟨k, hk, rfl, hgr⟩ := hrel
    have HGR := hid hgr
    clear hgr
    by_cases hlt : k < n
    · have hkl : k < H.length := by rw [HN.out]; exact hlt
      have hkn : (k : Int) < (n : Int) := by omega
      have hx := List.getElem?_eq_getElem hkl
      obtain ⟨a0, a1, a2⟩ := zblk_at (at_grown HA.out HGR.out (by simp)) hx
      obtain ⟨b0, b1, b2⟩ := zblk_at (at_grown HB.out HGR.out (by simp)) hx
      generalize (standH H[k]).1 = x0 at *
      generalize (standH H[k]).2.1 = x1 at *
      generalize (standH H[k]).2.2 = x2 at *
      clear hx hkl
      go_wp2_with fail
      go_quiet (fail)
      go_wp2_with fail
      go_roundw
      case rel => exact ⟨k + 1, by omega, by go_num, gbn HGR.out _⟩
      case measure => simp [intOf]; omega
    · obtain rfl : k = n := by omega
      have hkn : ¬ (k : Int) < (k : Int) := by omega
      go_wp2_with fail
      go_ret
      exact ⟨rfl, HGR.out⟩
end Go.Proofs.Ytogmibmkkmbgoaa
