/-
  What the arguments of a law read as, told to the walk: arrays of words, slices of bytes, of words, of slices of bytes. And: arguments read behind the call as they did before it, where nothing that was there has changed. No condition. Nothing of the program's functions is named here.
-/
import Derived.Test.YtngfnigfkabihaaZ1
import Derived.ProofKit
import Derived.OpenShut
import Derived.ChangeOld
import Derived.Below
namespace Go.Proofs.Ytngfnigfkabihaa
set_option maxRecDepth 100000
open Go.ChangeShapes Go.WideShapes Go.ChangeAt Go.RowKit

theorem own : ownKnob Try.prog.godebug = none := by kernel_rfl
theorem laidOut : laidOutB Try.prog = true := by kernel_rfl

/-- Whole lists of arguments, behind a call that changed nothing that was there. -/
theorem all_below {P : Program} (hP : laidOutB P = true) {H : Type} {enc : TypeId × Value → H} {W W' : World} (hb : Below W.heap.size W W') {ts : List TypeId} :
    ∀ {vs : List Value} {ds : List (DataW H)} {ps : List MemPlace}, (ts.all fun t => P.readableRec t && decide (t < P.types.size)) = true →
      DataW.TrodAll enc P W 0 (fun _ => true) true ts vs ds ps → (∀ x ∈ ps, x.block < W.heap.size) →
      DataW.TrodAll enc P W' 0 (fun b => decide (b < W.heap.size)) true ts vs ds ps := by
  induction ts with
  | nil =>
    intro vs ds ps _ h _
    obtain ⟨rfl, rfl, rfl⟩ := trodAll_nil h
    rfl
  | cons t ts ih =>
    intro vs ds ps ht h hlt
    obtain ⟨v, vs', d, ds', p, q, rfl, rfl, rfl, h1, h2⟩ := trodAll_cons h
    simp only [List.all_cons, Bool.and_eq_true, decide_eq_true_eq] at ht
    exact ⟨p, q, Below.trod hP ht.1.1 ht.1.2 h1 hb (fun x hx => hlt x (List.mem_append_left _ hx)), ih ht.2 h2 (fun x hx => hlt x (List.mem_append_right _ hx)), rfl⟩

theorem two_of {α : Type} {xs : List α} (h : xs.length = 2) : ∃ a b, xs = [a, b] := by
  match xs, h with
  | [a, b], _ => exact ⟨a, b, rfl⟩
theorem four_of {α : Type} {xs : List α} (h : xs.length = 4) : ∃ a b c d, xs = [a, b, c, d] := by
  match xs, h with
  | [a, b, c, d], _ => exact ⟨a, b, c, d, rfl⟩

section
variable {H : Type} {enc : TypeId × Value → H} {w : World} {base : Nat} {d : DataW H} {ps : List MemPlace} {v : Value} {t e : TypeId}

/-- an array of 64-bit words, by value -/
theorem open_words {n : Nat} (ht : Try.prog.underlying t = some (.array n e)) (he : Try.prog.underlying e = some (.int .u64)) (hc : Try.prog.cellsOf e = 1) (hn : Try.prog.cellsOf t = n)
    (hval : Value.okWide Try.prog w .any base t v) (h : DataW.Trod enc Try.prog w 0 (fun _ => true) true t v d ps) :
    ∃ xs : List (BitVec 64), xs.length = n ∧ v = .agg (xs.map fun x => Value.int .u64 (q x)).toArray := by
  simp only [Value.okWide, ht] at hval
  obtain ⟨cs, rfl, _, _⟩ := hval
  obtain ⟨fuel, hf⟩ := h
  obtain ⟨xs, m, _, _, hl, _, hx⟩ := DataW.trod_array ht hf
  have hcs : (Value.agg cs).cells = cs := rfl
  rw [hcs] at hl hx
  rw [hn] at hl
  have key : ∀ i, (hi : i < cs.toList.length) → ∃ x : BitVec 64, cs.toList[i] = Value.int .u64 (q x) := by
    intro i hi
    have h1 := hx i (by omega)
    rw [hc, Nat.mul_one] at h1
    have h2 : (cs.toList.drop i).take 1 = [cs.toList[i]] := by
      rw [List.drop_eq_getElem_cons hi]; rfl
    rw [h2, List.getElem?_eq_getElem (by omega)] at h1
    obtain ⟨z, hz, _, hwf⟩ := DataW.trod_int he h1
    obtain ⟨x, rfl⟩ := q_of hwf
    refine ⟨x, by simpa using hz⟩
  have all : ∀ (l : List Value), (∀ i, (hi : i < l.length) → ∃ x : BitVec 64, l[i] = Value.int .u64 (q x)) → ∃ xs : List (BitVec 64), l = xs.map fun x => Value.int .u64 (q x) := by
    intro l
    induction l with
    | nil => intro _; exact ⟨[], rfl⟩
    | cons a l ih =>
      intro hh
      obtain ⟨x, hx⟩ := hh 0 (by simp)
      obtain ⟨xs, hxs⟩ := ih (fun i hi => hh (i + 1) (by simpa using hi))
      exact ⟨x :: xs, by rw [List.map_cons, ← hxs]; simpa using hx⟩
  obtain ⟨ys, hys⟩ := all cs.toList key
  refine ⟨ys, by rw [← hl, hys]; simp, ?_⟩
  rw [← hys]
/-- the bytes that a slice's cells hold, out of what the form's reading of integers gives -/
theorem bytes_of {a : Addr} {len cap : Nat} {zs : List Int} (hl : len ≤ cap) (hm : cap ≤ maxLen) (hz : zs.length = cap) (hc : ∀ i, i < zs.length → w.cell? (a.add i) = some (.int .u8 (zs.getD i 0))) (hw : ∀ n ∈ zs, (Lit.int .u8 n).wf = true) :
    ∃ l : List UInt8, l.length = len ∧ BytesAt w (.slice (some a) len cap) l := by
  refine ⟨(zs.take len).map fun n => UInt8.ofNat n.toNat, by simp; omega, .inr ⟨a, cap, by simp; omega, by simp; omega, hm, fun i hi => ?_⟩⟩
  simp at hi
  have hi2 : i < zs.length := by omega
  rw [hc i hi2]
  have hwf := hw zs[i] (List.getElem_mem hi2)
  have hb : 0 ≤ zs[i] ∧ zs[i] ≤ 255 := by simpa [Lit.wf, IntKind.min, IntKind.max, IntKind.signed, IntKind.bits] using hwf
  have e : zs.getD i 0 = zs[i] := by simp [hi2]
  rw [e]
  simp
  omega
/-- a slice of bytes -/
theorem open_bytes (ht : Try.prog.underlying t = some (.slice e)) (he : Try.prog.underlying e = some (.int .u8)) (hc : Try.prog.cellsOf e = 1)
    (hval : Value.okWide Try.prog w .any base t v) (h : DataW.Trod enc Try.prog w 0 (fun _ => true) true t v d ps) :
    ∃ l : List UInt8, ∃ p c, v = .slice p l.length c ∧ BytesAt w v l := by
  obtain ⟨a0, len, cap, rfl⟩ := okWide_slice ht hval
  obtain ⟨fuel, hf⟩ := h
  rcases open_ints ht he hc hf with ⟨hcs, _⟩ | ⟨a, len', cap', zs, hcs, _, hl, hm, hz, _, hcell, hwz⟩
  · simp [Value.cells] at hcs
    obtain ⟨rfl, rfl, rfl⟩ := hcs
    exact ⟨[], none, 0, rfl, .inl ⟨rfl, rfl⟩⟩
  · simp [Value.cells] at hcs
    obtain ⟨rfl, rfl, rfl⟩ := hcs
    obtain ⟨l, hl1, hl2⟩ := bytes_of hl hm (by simpa using hz) hcell hwz
    exact ⟨l, _, _, by rw [hl1], hl2⟩
end
end Go.Proofs.Ytngfnigfkabihaa
