/-
  Contracts for the program's hash with a key: bytes are written, the sum is told, a hash is made, the sum of bytes at once. Each does to the hash's block what the plain functions say, and changes nothing else that was there. The conditions: the block is a hash under way, as 'New' makes it; the bytes lie elsewhere.
-/
import Derived.Test.YtmnmekjbjccamaaAdd
namespace Go.Proofs.Ytmnmekjbjccamaa
set_option maxRecDepth 100000
open Go.RowKit

/-- a slice that reads as these bytes -/
def BytesAt (w : World) (v : Value) (l : List UInt8) : Prop :=
  (v = .slice none 0 0 ∧ l = []) ∨
  ∃ a cap, v = .slice (some a) l.length cap ∧ l.length ≤ cap ∧ cap ≤ maxLen ∧ ∀ i, (h : i < l.length) → w.cell? (a.add i) = some (.int .u8 ((l[i]).toNat : Int))

theorem BytesAt.le {w : World} {v : Value} {l : List UInt8} (h : BytesAt w v l) : l.length ≤ maxLen := by
  rcases h with ⟨_, rfl⟩ | ⟨a, cap, _, h1, h2, _⟩
  · simp
  · omega
theorem cell_lt {w : World} {p : Addr} {x : Value} (h : w.cell? p = some x) : p.block < w.heap.size := by
  unfold World.cell? at h
  rcases Nat.lt_or_ge p.block w.heap.size with hb | hb
  · exact hb
  · rw [Array.getElem?_eq_none hb] at h; cases h
theorem add_block (a : Addr) (i : Nat) : (a.add i).block = a.block := by unfold Addr.add; split <;> rfl
/-- where there is a byte, the slice's block is there -/
theorem BytesAt.lt {w : World} {v : Value} {l : List UInt8} (h : BytesAt w v l) : l = [] ∨ ∀ a n c, v = .slice (some a) n c → a.block < w.heap.size := by
  rcases h with ⟨_, rfl⟩ | ⟨a, cap, rfl, _, _, h3⟩
  · exact .inl rfl
  · cases l with
    | nil => exact .inl rfl
    | cons x l =>
      refine .inr fun a' n c e => ?_
      cases e
      have := cell_lt (h3 0 (by simp))
      rwa [add_block] at this
theorem BytesAt.grown {w w1 : World} {v : Value} {l : List UInt8} {r : Option Nat} (h : BytesAt w v l) (hg : w.grownBy w1 r) (hr : ∀ k, r = some k → w.heap.size ≤ k ∨ l = [] ∨ ∀ a n c, v = .slice (some a) n c → a.block ≠ k) : BytesAt w1 v l := by
  rcases h with h | ⟨a, cap, rfl, h1, h2, h3⟩
  · exact .inl h
  · refine .inr ⟨a, cap, rfl, h1, h2, fun i hi => hg.cell (h3 i hi) ?_⟩
    have hlt := cell_lt (h3 i hi)
    rw [add_block] at hlt ⊢
    intro e
    rcases hr _ e.symm with h4 | h4 | h4
    · omega
    · rw [h4] at hi; cases hi
    · exact h4 a _ _ rfl rfl
theorem BytesAt.cells {w : World} {v : Value} {l : List UInt8} (h : BytesAt w v l) (hp : 0 < l.length) :
    ∃ ab ao cap, v = .slice (some ⟨ab, ao, none⟩) l.length cap ∧ ∀ i, (h : i < l.length) → w.cell? ⟨ab, ao + i, none⟩ = some (.int .u8 ((l[i]).toNat : Int)) := by
  rcases h with ⟨_, rfl⟩ | ⟨⟨ab, ao, asp⟩, cap, rfl, _, _, h3⟩
  · cases hp
  · have h0 := h3 0 hp
    have hsp : asp = none := by simpa [Addr.add] using World.cell?_spot h0
    subst hsp
    refine ⟨ab, ao, cap, rfl, fun i hi => ?_⟩
    have := h3 i hi
    unfold Addr.add at this
    split at this
    · next h => subst h; simpa using this
    · simpa using this
theorem gb_some {w w1 : World} (h : w.grownBy w1 none) (b : Nat) : w.grownBy w1 (some b) := ⟨h.os, h.tape, h.output, h.size, fun k hk _ => h.block k hk (by simp)⟩

/-- a receiver that is nil: 0 -/
theorem write_nil (v : Value) (w : World) :
    Calls Try.prog 47 #[.pointer none, v] w fun e w' => e = .returned (.int .i64 0) ∧ w = w' := by
  go_enter Try.func47, Try.ntmps47
  go_wp2
  go_ret
  exact ⟨rfl, rfl⟩
theorem sum_nil (w : World) :
    Calls Try.prog 48 #[.pointer none] w fun e w' => e = .returned (.int .u64 0) ∧ w = w' := by
  go_enter Try.func48, Try.ntmps48
  go_wp2
  go_ret
  exact ⟨rfl, rfl⟩

theorem add_any (b : Nat) (s : St) (x : UInt8) (w : World) (hb : w.heap[b]? = some s.obj) :
    Calls Try.prog 56 #[.pointer (some ⟨b, 0, none⟩), .int .u8 (x.toNat : Int)] w fun e w' => e = .returned (.tuple #[]) ∧ w'.heap[b]? = some (s.add x).obj ∧ w.grownBy w' (some b) := by
  by_cases hn : s.n % 8 = 7
  · exact add_end b s x hn w hb
  · exact add_mid b s x hn w hb

set_option maxHeartbeats 1600000 in
theorem write_any (b : Nat) (s : St) (l : List UInt8) (v : Value) (w : World) (hb : w.heap[b]? = some s.obj) (hl : BytesAt w v l) (hne : l = [] ∨ ∀ a n c, v = .slice (some a) n c → a.block ≠ b) :
    Calls Try.prog 47 #[.pointer (some ⟨b, 0, none⟩), v] w fun e w' => e = .returned (.int .i64 (l.length : Int)) ∧ w'.heap[b]? = some (l.foldl St.add s).obj ∧ w.grownBy w' (some b) := by
  have hle := hl.le
  unfold maxLen at hle
  have HB := hid hb; clear hb
  have HL := hid hl
  obtain ⟨p, cap, rfl⟩ : ∃ p cap, v = .slice p l.length cap := by
    rcases hl with ⟨rfl, rfl⟩ | ⟨a, cap, rfl, _, _, _⟩
    · exact ⟨none, 0, rfl⟩
    · exact ⟨some a, cap, rfl⟩
  clear hl
  go_enter Try.func47, Try.ntmps47
  go_wp2_with fail
  refine (begin_done b 0 0 _ _ _ _ _ _ _ HB.out).mono ?_
  rintro e w1 ⟨rfl, hg⟩
  go_wp2_with fail
  have hb1 := at_grown HB.out hg (by simp)
  have HB1 := hid hb1; have HG := hid hg; clear hb1 hg
  go_loopw [14] (fun i wr => ∃ k : Nat, k ≤ l.length ∧ i = .int .i64 (k : Int) ∧ wr.heap[b]? = some ((l.take k).foldl St.add s).obj ∧ w.grownBy wr (some b)) (fun i _ => l.length - (intOf i).toNat)
  case atStart => exact ⟨0, Nat.zero_le _, rfl, HB1.out, gb_some HG.out b⟩
  case round =>
    obtain ⟨k, hk, rfl, hbk, hgk⟩ := hrel
    have HBK := hid hbk; have HGK := hid hgk; clear hbk hgk
    by_cases hlt : k < l.length
    · obtain ⟨ab, ao, cap', hp, hcs⟩ := (HL.out.grown HGK.out (fun k hk => by cases hk; exact .inr hne)).cells (by omega)
      cases hp
      have hc := hcs k hlt
      clear hcs
      have hk0 : (0 : Int) ≤ (k : Int) := by omega
      have hk1 : (k : Int) < (l.length : Int) := by omega
      go_wp2_with fail
      refine (add_any b _ _ _ HBK.out).mono ?_
      rintro e w2 ⟨rfl, h1, h2⟩
      have H1 := hid h1; have H2 := hid h2; clear h1 h2
      go_wp2_with fail
      go_roundw
      case rel => exact ⟨k + 1, by omega, by go_num, by rw [List.take_succ_eq_append_getElem hlt, List.foldl_append]; exact H1.out, gb_trans HGK.out H2.out (.inr (.inl rfl))⟩
      case measure => simp [intOf]; omega
    · have hkn : k = l.length := by omega
      subst hkn
      go_wp2_with fail
      go_ret
      exact ⟨rfl, by have := HBK.out; rwa [List.take_of_length_le (Nat.le_refl _)] at this, HGK.out⟩
end Go.Proofs.Ytmnmekjbjccamaa
