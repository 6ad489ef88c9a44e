/-
  Contracts for package wire and the document's own answer, each for whatever comes: put, seal, get, split. The conditions: bytes that read as bytes, of a modest length.
-/
import Derived.Test.YtjmcjkmfpcphnaaWRSplit
set_option linter.unusedSimpArgs false
set_option linter.unusedVariables false
namespace Go.Proofs.Ytjmcjkmfpcphnaa
set_option maxRecDepth 100000
open Go.RowKit

def putB (m : Mg) : List UInt8 := if mayOf m = true then putOf m else []
def putC (m : Mg) : Int := if mayOf m = true then 0 else 1
def sealB (k0 k1 : BitVec 64) (m : Mg) : List UInt8 := if mayOf m = true then sealOf k0 k1 m else []
theorem putB_le (m : Mg) : (putB m).length ≤ 32 := by unfold putB; split <;> simp [putOf_length]
theorem sealB_le (k0 k1 : BitVec 64) (m : Mg) : (sealB k0 k1 m).length ≤ 48 := by unfold sealB; split <;> simp [sealOf_length]

theorem put_all (m : Mg) (w : World) :
    Calls Try.prog 9 #[mg m] w fun e w' => ∃ v, e = .returned (.tuple #[v, .int .i64 (putC m)]) ∧ OwnB w.heap.size w' v (putB m) ∧ w.grownBy w' none := by
  unfold putC putB
  cases h : mayOf m
  · exact (wput_bad m h w).mono fun e w' ⟨he, hg⟩ => ⟨_, he, OwnB.nil _ _, hg⟩
  · exact (wput_good m h w).mono fun e w' ⟨v, he, ho, hg⟩ => ⟨v, he, ho, hg⟩
theorem rput_all (m : Mg) (w : World) :
    Calls Try.prog 10 #[mg m] w fun e w' => e = .returned (.tuple #[.string ⟨(putB m).toArray⟩, .int .i64 (putC m)]) ∧ w.grownBy w' none := by
  unfold putC putB
  cases h : mayOf m
  · exact rput_bad m h w
  · exact rput_as m h w
theorem seal_all (k0 k1 : BitVec 64) (m : Mg) (w : World) :
    Calls Try.prog 11 #[pair k0 k1, mg m] w fun e w' => ∃ v, e = .returned (.tuple #[v, .int .i64 (putC m)]) ∧ OwnB w.heap.size w' v (sealB k0 k1 m) ∧ w.grownBy w' none := by
  unfold putC sealB
  cases h : mayOf m
  · exact (seal_bad k0 k1 m h w).mono fun e w' ⟨he, hg⟩ => ⟨_, he, OwnB.nil _ _, hg⟩
  · exact (seal_good k0 k1 m h w).mono fun e w' ⟨v, he, ho, hg⟩ => ⟨v, he, ho, hg⟩
theorem rseal_all (k0 k1 : BitVec 64) (m : Mg) (w : World) :
    Calls Try.prog 12 #[pair k0 k1, mg m] w fun e w' => e = .returned (.tuple #[.string ⟨(sealB k0 k1 m).toArray⟩, .int .i64 (putC m)]) ∧ w.grownBy w' none := by
  unfold putC sealB
  cases h : mayOf m
  · exact rseal_bad k0 k1 m h w
  · exact rseal_good k0 k1 m h w
theorem get_all (v : Value) (l : List UInt8) (w : World) (hl : BytesAt w v l) :
    Calls Try.prog 13 #[v] w fun e w' => e = .returned (.tuple #[mg (gotM l), .int .i64 (gotC l)]) ∧ w.grownBy w' none := by
  obtain ⟨p, c, rfl⟩ := hl.form
  by_cases h : l.length = 32
  · rw [h] at hl ⊢; exact wget_walk p c l h w hl
  · have e := gotM_none (get_none_of_length h)
    rw [e.1, e.2]; exact wget_bad p _ c h w
theorem rget_all (s : ByteArray) (l : List UInt8) (hs : s.data.toList = l) (h1 : s.size ≤ 100000) (w : World) :
    Calls Try.prog 14 #[.string s] w fun e w' => e = .returned (.tuple #[mg (gotM l), .int .i64 (gotC l)]) ∧ w.grownBy w' none := by
  subst hs
  by_cases h : s.size = 32
  · exact rget_walk s h w
  · have e := gotM_none (get_none_of_length (l := s.data.toList) (by simpa using h))
    rw [e.1, e.2]; exact rget_bad s h h1 w

/-- what is in an envelope's bytes -/
def cutOf (l : List UInt8) : Option Mg := if l.length = 48 then getOf (l.take 32) else none
def spM (l : List UInt8) : Mg := (cutOf l).getD zeroM
def spX (l : List UInt8) : List UInt8 := if (cutOf l).isSome then l.take 32 else []
def spA (l : List UInt8) : BitVec 64 := if (cutOf l).isSome then wordAt (l.drop 32) 0 8 else 0
def spB (l : List UInt8) : BitVec 64 := if (cutOf l).isSome then wordAt (l.drop 32) 8 8 else 0
def spC (l : List UInt8) : Int := if (cutOf l).isSome then 0 else 2
theorem split_all (v : Value) (l : List UInt8) (w : World) (hl : BytesAt w v l) :
    Calls Try.prog 15 #[v] w fun e w' => ∃ u, e = .returned (.tuple #[mg (spM l), u, pair (spA l) (spB l), .int .i64 (spC l)]) ∧ OwnB w.heap.size w' u (spX l) ∧ w.grownBy w' none := by
  unfold spM spX spA spB spC
  by_cases h : l.length = 48
  · obtain ⟨ab, ao, c, rfl, hc⟩ := hl.cells (by omega)
    have hcap : 48 ≤ c ∧ c ≤ maxLen := by
      rcases hl with ⟨e, _⟩ | ⟨a, cap, e, h1, h2, _⟩
      · cases e
      · cases e; omega
    rw [h] at hl ⊢
    cases hg : cutOf l with
    | none =>
      have hg' : getOf (l.take 32) = none := by unfold cutOf at hg; rwa [if_pos h] at hg
      exact (split_no ab ao c hcap.1 hcap.2 l h hg' w hl).mono fun e w' ⟨he, hgr⟩ => ⟨_, he, OwnB.nil _ _, hgr⟩
    | some m =>
      have hg' : getOf (l.take 32) = some m := by unfold cutOf at hg; rwa [if_pos h] at hg
      exact (split_yes ab ao c hcap.1 hcap.2 l h m hg' _ _ rfl rfl w hl).mono fun e w' ⟨u, he, ho, hgr⟩ => ⟨u, he, ho, hgr⟩
  · obtain ⟨p, c, rfl⟩ := hl.form
    have hg : cutOf l = none := by unfold cutOf; rw [if_neg h]
    rw [hg]
    exact (split_bad p _ c h w).mono fun e w' ⟨he, hgr⟩ => ⟨_, he, OwnB.nil _ _, hgr⟩
theorem rsplit_all (s : ByteArray) (l : List UInt8) (hs : s.data.toList = l) (h1 : s.size ≤ 100000) (w : World) :
    Calls Try.prog 16 #[.string s] w fun e w' => e = .returned (.tuple #[mg (spM l), .string ⟨(spX l).toArray⟩, pair (spA l) (spB l), .int .i64 (spC l)]) ∧ w.grownBy w' none := by
  have hsz : l.length = s.size := by rw [← hs]; simp
  unfold spM spX spA spB spC
  by_cases h : s.size = 48
  · cases hg : cutOf l with
    | none =>
      have hg' : getOf (s.data.toList.take 32) = none := by unfold cutOf at hg; rw [if_pos (by omega)] at hg; rwa [hs]
      exact rsplit_no s h hg' w
    | some m =>
      have hg' : getOf (s.data.toList.take 32) = some m := by unfold cutOf at hg; rw [if_pos (by omega)] at hg; rwa [hs]
      have hx : s.extract 0 32 = ⟨(l.take 32).toArray⟩ := by apply ByteArray.ext; rw [← hs]; apply Array.toList_inj.1; simp [List.extract_eq_take_drop]
      have := rsplit_yes s h m hg' _ _ (by rw [hs]) (by rw [hs]) w
      rw [hx] at this
      exact this
  · have hg : cutOf l = none := by unfold cutOf; rw [if_neg (by omega)]
    rw [hg]
    exact rsplit_bad s h h1 w
/-- an envelope splits into what was sealed -/
theorem cut_seal {m : Mg} (h : mayOf m = true) (k0 k1 : BitVec 64) : cutOf (sealOf k0 k1 m) = some m := by
  unfold cutOf
  rw [if_pos (sealOf_length k0 k1 m)]
  have : (sealOf k0 k1 m).take 32 = putOf m := by unfold sealOf; rw [List.take_left' (putOf_length m)]
  rw [this]; exact get_put (may_of h)
theorem sp_seal {m : Mg} (h : mayOf m = true) (k0 k1 : BitVec 64) :
    spM (sealOf k0 k1 m) = m ∧ spX (sealOf k0 k1 m) = putOf m ∧ spA (sealOf k0 k1 m) = sumOf k0 k1 (putOf m) ∧ spB (sealOf k0 k1 m) = sumOf k1 (inv k0) (putOf m) ∧ spC (sealOf k0 k1 m) = 0 := by
  have hc := cut_seal h k0 k1
  have ht : (sealOf k0 k1 m).take 32 = putOf m := by unfold sealOf; rw [List.take_left' (putOf_length m)]
  have hd : (sealOf k0 k1 m).drop 32 = putAll [sumOf k0 k1 (putOf m), sumOf k1 (inv k0) (putOf m)] := by
    unfold sealOf; rw [List.drop_left' (putOf_length m)]; simp [tagB, putAll]
  unfold spM spX spA spB spC
  rw [hc, ht, hd]
  exact ⟨rfl, rfl, word_at _ 0 (by simp), word_at _ 1 (by simp), rfl⟩
end Go.Proofs.Ytjmcjkmfpcphnaa
