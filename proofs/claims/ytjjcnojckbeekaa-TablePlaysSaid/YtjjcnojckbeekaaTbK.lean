/-
  Places as keys of a map: what such a key reads as; maps whose entries are the samples of a list. No condition.
-/
import Derived.Test.YtjjcnojckbeekaaTbP
import Derived.Test.YtjjcnojckbeekaaPlain
import Derived.DeepKeys5
import Derived.Maps.RangeWalk
import Derived.Maps.OwnSet
import Derived.Lib.SlMapFilter
set_option linter.unusedSimpArgs false
set_option linter.unusedVariables false
namespace Go.Proofs.Ytjjcnojckbeekaa
set_option maxRecDepth 100000
open Go.RowKit Go.Maps

def cellsP (p : Pc) : List Value := [.int .i64 p.1, .int .i64 p.2.1, .int .i64 p.2.2]
def encP (p : Pc) : Value := .agg #[.int .i64 p.1, .int .i64 p.2.1, .int .i64 p.2.2]
def cellsS (s : Sm) : List Value := [.int .i64 s.who, .int .i64 s.met, .int .i64 s.ep, .int .i64 s.val]
def encS (s : Sm) : Value := .agg #[.int .i64 s.who, .int .i64 s.met, .int .i64 s.ep, .int .i64 s.val]
def wf64 (n : Int) : Prop := -9223372036854775808 ≤ n ∧ n ≤ 9223372036854775807
def FitP (p : Pc) : Prop := wf64 p.1 ∧ wf64 p.2.1 ∧ wf64 p.2.2
theorem wf64_iff (n : Int) : (Lit.int .i64 n).wf = true ↔ wf64 n := by
  simp [Lit.wf, IntKind.min, IntKind.max, IntKind.signed, IntKind.bits, wf64]
theorem encP_inj {p r : Pc} (h : encP p = encP r) : p = r := by
  obtain ⟨a, b, c⟩ := p
  obtain ⟨a', b', c'⟩ := r
  simpa [encP] using h
def pkL (p : Pc) : Lit := .string (keyBytes [.int .i64 p.1, .int .i64 p.2.1, .int .i64 p.2.2])
theorem tsz : 2 ≤ Try.prog.types.size := Nat.le_of_ble_eq_true (by kernel_rfl)
theorem tsz2 : Try.prog.types.size + 2 ≤ 10000 := Nat.le_of_ble_eq_true (by kernel_rfl)
theorem tsz3 : 53 < Try.prog.types.size := Nat.le_of_ble_eq_true (by kernel_rfl)
theorem keyLaw : WideMaps.KeyLaw Try.prog 53 := deep_law_gate laidOut tsz2 tsz3 (by kernel_rfl) (by kernel_rfl)
theorem keyed : Keyed Try.prog 53 := .of_law keyLaw
theorem ktP : Try.prog.keyType 53 = true := by kernel_rfl
theorem cellsOfP : Try.prog.cellsOf 53 = 3 := by kernel_rfl
theorem cellsOfI : Try.prog.cellsOf 3 = 1 := by kernel_rfl
theorem cellsOfI6 : Try.prog.cellsOf 2 = 1 := by kernel_rfl
theorem lits_i (d : Nat) (cs : List Value) (ls : List Lit) (h : Try.prog.keyLits (d + 1) 3 cs = some ls) : ∃ n, cs = [.int .i64 n] ∧ ls = [.int .i64 n] ∧ wf64 n := by
  unfold Program.keyLits at h
  simp only [Try.underlying3] at h
  match cs, h with
  | [.int q n], h =>
    simp only at h
    split at h
    · next hq => obtain ⟨rfl, hw⟩ := hq; cases h; exact ⟨n, rfl, rfl, (wf64_iff n).1 hw⟩
    · cases h
theorem lits_i6 (d : Nat) (cs : List Value) (ls : List Lit) (h : Try.prog.keyLits (d + 1) 2 cs = some ls) : ∃ n, cs = [.int .i64 n] ∧ ls = [.int .i64 n] ∧ wf64 n := by
  unfold Program.keyLits at h
  simp only [Try.underlying2] at h
  match cs, h with
  | [.int q n], h =>
    simp only at h
    split at h
    · next hq => obtain ⟨rfl, hw⟩ := hq; cases h; exact ⟨n, rfl, rfl, (wf64_iff n).1 hw⟩
    · cases h
theorem mk_i (d : Nat) {n : Int} (h : wf64 n) : Try.prog.keyLits (d + 1) 3 [.int .i64 n] = some [.int .i64 n] := by
  unfold Program.keyLits
  simp [Try.underlying3, (wf64_iff n).2 h]
theorem mk_i6 (d : Nat) {n : Int} (h : wf64 n) : Try.prog.keyLits (d + 1) 2 [.int .i64 n] = some [.int .i64 n] := by
  unfold Program.keyLits
  simp [Try.underlying2, (wf64_iff n).2 h]
theorem keyOf_pl {p : Pc} (h : FitP p) : keyOf Try.prog 53 (encP p) = some (pkL p) := by
  obtain ⟨h1, h2, h3⟩ := h
  obtain ⟨d, hd⟩ : ∃ d, Try.prog.types.size = d + 2 := ⟨Try.prog.types.size - 2, by have := tsz; omega⟩
  unfold keyOf
  simp only [Try.underlying53, ktP]
  have hf : (encP p).formed Try.prog 53 = true := by
    simp [encP, Value.formed, Try.underlying53, cellsOfP]
  rw [hf, hd]
  simp only [Bool.and_self, if_true]
  have hl : Try.prog.keyLits (d + 2 + 1) 53 (encP p).cells.toList = some [.int .i64 p.1, .int .i64 p.2.1, .int .i64 p.2.2] := by
    unfold Program.keyLits
    simp only [Try.underlying53, encP, Value.cells]
    simp [cellsOfP, cellsOfI, cellsOfI6, mk_i (d + 1) h2, mk_i (d + 1) h3, mk_i6 (d + 1) h1]
  rw [hl]
  rfl
theorem keyOf_inv {v : Value} {kl : Lit} (h : keyOf Try.prog 53 v = some kl) : ∃ p, v = encP p ∧ kl = pkL p ∧ FitP p := by
  obtain ⟨d, hd⟩ : ∃ d, Try.prog.types.size = d + 2 := ⟨Try.prog.types.size - 2, by have := tsz; omega⟩
  unfold keyOf at h
  simp only [Try.underlying53, ktP, hd] at h
  split at h
  · next hf =>
    simp only [Bool.true_and] at hf
    cases v <;> simp only [Value.formed, Try.underlying53, Bool.false_eq_true] at hf
    next cs =>
    rw [Option.map_eq_some_iff] at h
    obtain ⟨ls, hl, rfl⟩ := h
    rw [cellsOfP, beq_iff_eq] at hf
    obtain ⟨⟨x, y, z, rfl⟩⟩ : Nonempty (∃ x y z, cs = #[x, y, z]) := by
      obtain ⟨l⟩ := cs
      match l, hf with
      | [x, y, z], _ => exact ⟨⟨x, y, z, rfl⟩⟩
    unfold Program.keyLits at hl
    simp only [Try.underlying53, Value.cells] at hl
    simp [cellsOfP, cellsOfI, cellsOfI6] at hl
    cases ex : Try.prog.keyLits (d + 2) 2 [x] with
    | none => rw [ex] at hl; simp at hl
    | some lx =>
    cases ey : Try.prog.keyLits (d + 2) 3 [y] with
    | none => rw [ex, ey] at hl; simp at hl
    | some ly =>
    cases ez : Try.prog.keyLits (d + 2) 3 [z] with
    | none => rw [ex, ey, ez] at hl; simp at hl
    | some lz =>
    rw [ex, ey, ez] at hl
    obtain ⟨n1, c1, rfl, w1⟩ := lits_i6 (d + 1) _ _ ex
    obtain ⟨n2, c2, rfl, w2⟩ := lits_i (d + 1) _ _ ey
    obtain ⟨n3, c3, rfl, w3⟩ := lits_i (d + 1) _ _ ez
    cases c1
    cases c2
    cases c3
    simp at hl
    subst hl
    exact ⟨(n1, n2, n3), rfl, rfl, w1, w2, w3⟩
  · cases h
theorem pkL_inj {p r : Pc} (hp : FitP p) (hr : FitP r) (h : pkL p = pkL r) : p = r :=
  encP_inj (keyed.inj (keyOf_pl hp) (by rw [h]; exact keyOf_pl hr))
theorem pkL_key (p : Pc) : WideAt.IsKeyLit (pkL p) := trivial
theorem pkL_same (p : Pc) : (pkL p).sameKey (pkL p) = true := WideAt.sameKey_self (pkL_key p)

section
variable {H : Type} {D : DataW H} {L : List Sm} {left : Lit → Bool} {ps : List Pc} {p : Pc} {s : Sm}
/-- a sample as a map's entry -/
def ent (H : Type) (s : Sm) : Lit × DataW H := (pkL s.pl, .lit (.int .i64 s.val))
/-- the map's entries are the samples -/
def MapIs (D : DataW H) (L : List Sm) : Prop := ∃ es, D = .map es ∧ es.Perm (L.map (ent H))
def Fits (L : List Sm) : Prop := ∀ s ∈ L, FitP s.pl
theorem MapIs.nil : MapIs (.map [] : DataW H) [] := ⟨[], rfl, .refl _⟩
theorem MapIs.size (h : MapIs D L) : Maps.size D = L.length := by
  obtain ⟨es, rfl, hp⟩ := h
  show es.length = _
  rw [hp.length_eq, List.length_map]
theorem MapIs.has_iff (h : MapIs D L) (hL : Fits L) (hp : FitP p) : Maps.has D (pkL p) = true ↔ There L p := by
  obtain ⟨es, rfl, hpm⟩ := h
  rw [Maps.has_eq, List.any_eq_true]
  constructor
  · rintro ⟨x, hx, hk⟩
    obtain ⟨s, hs, rfl⟩ := List.mem_map.1 (hpm.mem_iff.1 hx)
    exact ⟨s, hs, pkL_inj (hL s hs) hp (WideAt.sameKey_eq hk)⟩
  · rintro ⟨s, hs, rfl⟩
    exact ⟨_, hpm.mem_iff.2 (List.mem_map_of_mem hs), pkL_same _⟩
theorem MapIs.has_not (h : MapIs D L) (hL : Fits L) (hp : FitP p) (hn : ¬ There L p) : Maps.has D (pkL p) = false := by
  cases e : Maps.has D (pkL p)
  · rfl
  · exact absurd ((h.has_iff hL hp).1 e) hn
theorem MapIs.at (h : MapIs D L) (hS : Srt L) (hL : Fits L) (hs : s ∈ L) (z : DataW H) : D.atKey (pkL s.pl) z = .lit (.int .i64 s.val) := by
  obtain ⟨es, rfl, hpm⟩ := h
  have hne : es.Pairwise fun p q => p.1 ≠ q.1 := by
    refine (hpm.pairwise_iff (fun {a b} (k : a.1 ≠ b.1) => k.symm)).2 (List.pairwise_map.2 (hS.ne.imp_of_mem fun {a b} ha hb hab e => hab (pkL_inj (hL a ha) (hL b hb) e)))
  exact WideAt.atKey_mem z (pkL_key _) hne (hpm.mem_iff.2 (List.mem_map_of_mem hs))
theorem MapIs.put (h : MapIs D L) (hL : Fits L) (hs : FitP s.pl) (hn : ¬ There L s.pl) : MapIs (D.put (pkL s.pl) (.lit (.int .i64 s.val))) (ins s L) := by
  have h0 := h.has_not hL hs hn
  obtain ⟨es, rfl, hpm⟩ := h
  refine ⟨DataW.insert (pkL s.pl, .lit (.int .i64 s.val)) (es.filter fun p => !p.1.sameKey (pkL s.pl)), rfl, ?_⟩
  have hf : es.filter (fun p => !p.1.sameKey (pkL s.pl)) = es := List.filter_eq_self.2 fun x hx => by simpa using (List.any_eq_false.1 h0) x hx
  rw [hf]
  refine (WideShapes.insert_perm _ _).trans (List.Perm.trans ?_ ((ins_perm s L).map _).symm)
  exact hpm.cons _
theorem MapIs.drop (h : MapIs D L) {pd : Lit → DataW H → Bool} {e : Int} (hL : Fits L) (hpd : ∀ p d, FitP p → pd (pkL p) d = decide (p.1 ≤ e)) : MapIs (Lib.deleteFuncD pd D) (dropT L e) := by
  obtain ⟨es, rfl, hpm⟩ := h
  refine ⟨_, rfl, (hpm.filter _).trans ?_⟩
  unfold dropT
  rw [List.filter_map]
  refine .of_eq ?_
  congr 1
  refine List.filter_congr fun x hx => ?_
  have := hpd x.pl (.lit (.int .i64 x.val)) (hL x hx)
  simp only [Function.comp, ent, this]
  by_cases he : e < x.ep
  · have h2 : ¬ x.ep ≤ e := by omega
    simp [he, h2, Sm.pl]
  · have h2 : x.ep ≤ e := by omega
    simp [he, h2, Sm.pl]
theorem pd_of (H : Type) (e : Int) : ∃ pd : Lit → DataW H → Bool, ∀ p d, FitP p → pd (pkL p) d = decide (p.1 ≤ e) := by
  refine ⟨fun kl _ => @decide (∃ p : Pc, FitP p ∧ pkL p = kl ∧ p.1 ≤ e) (Classical.propDecidable _), fun p d hp => ?_⟩
  by_cases h : p.1 ≤ e
  · rw [decide_eq_true h]
    exact @decide_eq_true _ (Classical.propDecidable _) ⟨p, hp, rfl, h⟩
  · rw [decide_eq_false h]
    refine @decide_eq_false _ (Classical.propDecidable _) ?_
    rintro ⟨r, hr, e2, h2⟩
    rw [pkL_inj hr hp e2] at h2
    exact h h2
/-- which places have come, ranging over a map -/
structure Coll (D : DataW H) (left : Lit → Bool) (ps : List Pc) : Prop where
  nd : ps.Nodup
  fit : ∀ p ∈ ps, FitP p
  mem : ∀ p, FitP p → (p ∈ ps ↔ (Maps.has D (pkL p) = true ∧ left (pkL p) = false))
theorem Coll.start (D : DataW H) : Coll D (Maps.has D) [] := ⟨List.nodup_nil, by simp, fun p _ => by cases Maps.has D (pkL p) <;> simp⟩
theorem Coll.step (h : Coll D left ps) (hp : FitP p) {y : DataW H} (hlk : left (pkL p) = true) (hat : ∀ z, D.atKey (pkL p) z = y) : Coll D (fun z => left z && !z.sameKey (pkL p)) (ps ++ [p]) := by
  have hhas : Maps.has D (pkL p) = true := Maps.has_true_of_atKey hat
  have hnew : p ∉ ps := fun hx => by have := ((h.mem p hp).1 hx).2; rw [hlk] at this; cases this
  refine ⟨List.nodup_append.2 ⟨h.nd, by simp, fun a ha b hb => ?_⟩, fun r hr => ?_, fun r hr => ?_⟩
  · simp only [List.mem_singleton] at hb
    subst hb
    exact fun e => hnew (by rw [← e]; exact ha)
  · rcases List.mem_append.1 hr with hr | hr
    · exact h.fit r hr
    · simp only [List.mem_singleton] at hr
      subst hr
      exact hp
  · by_cases e : r = p
    · subst e
      simp [hhas, pkL_same]
    · have hs : (pkL r).sameKey (pkL p) = false := Maps.sameKey_ne fun k => e (pkL_inj hr hp k)
      simp [h.mem r hr, e, hs]
theorem Coll.perm (h : Coll D left ps) (hM : MapIs D L) (hS : Srt L) (hL : Fits L) (hl : ∀ kl, left kl = false) : ps.Perm (L.map Sm.pl) := by
  refine (List.perm_ext_iff_of_nodup h.nd hS.places).2 fun p => ?_
  constructor
  · intro hp
    obtain ⟨x, hx, rfl⟩ := (hM.has_iff hL (h.fit p hp)).1 ((h.mem p (h.fit p hp)).1 hp).1
    exact List.mem_map_of_mem hx
  · intro hp
    obtain ⟨x, hx, rfl⟩ := List.mem_map.1 hp
    exact (h.mem _ (hL x hx)).2 ⟨(hM.has_iff hL (hL x hx)).2 ⟨x, hx, rfl⟩, hl _⟩
theorem Fits.filter (h : Fits L) (f : Sm → Bool) : Fits (L.filter f) := fun s hs => h s (List.mem_filter.1 hs).1
theorem Fine.fits {n : Int} (h : Fine n L) : Fits L := fun s hs => by
  have := h.fit s hs
  unfold FitP wf64 Sm.pl
  simp only
  omega
end
/-- an element that reads as a number is that number -/
theorem elem_i64 {H : Type} {v : Value} {z : DataW H × List MemPlace} (h : plainElem Try.prog 2 v = some z) : ∃ a, v = .int .i64 a ∧ z = (.lit (.int .i64 a), []) := by
  obtain ⟨a, h1, h2, _⟩ := plainElem_int_inv Try.underlying2 h
  exact ⟨a, h1, h2⟩
end Go.Proofs.Ytjjcnojckbeekaa
