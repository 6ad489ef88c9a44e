/-
  Plain lists of samples in the order of their places (epoch, metric, who): what a table holds. No condition. Nothing of the program is named here.
-/
import Derived.WalkKit
set_option linter.unusedSimpArgs false
set_option linter.unusedVariables false
namespace Go.Proofs.Ytogmibmkkmbgoaa
set_option maxRecDepth 100000

structure Sm where
  who : Int
  met : Int
  ep : Int
  val : Int
theorem Sm.eq_of {a b : Sm} (h1 : a.who = b.who) (h2 : a.met = b.met) (h3 : a.ep = b.ep) (h4 : a.val = b.val) : a = b := by
  cases a; cases b; simp_all
/-- a place: epoch, metric, who -/
abbrev Pc := Int × Int × Int
def Sm.pl (s : Sm) : Pc := (s.ep, s.met, s.who)
def smEq (a b : Sm) : Bool := a.who == b.who && a.met == b.met && a.ep == b.ep && a.val == b.val
theorem smEq_iff (a b : Sm) : smEq a b = true ↔ a = b := by
  cases a; cases b; simp [smEq, and_assoc]
def PlLt (a b : Pc) : Prop := a.1 < b.1 ∨ a.1 = b.1 ∧ (a.2.1 < b.2.1 ∨ a.2.1 = b.2.1 ∧ a.2.2 < b.2.2)
instance (a b : Pc) : Decidable (PlLt a b) := by unfold PlLt; infer_instance
theorem plLt_irrefl (a : Pc) : ¬ PlLt a a := by unfold PlLt; omega
theorem plLt_trans {a b c : Pc} (h : PlLt a b) (k : PlLt b c) : PlLt a c := by unfold PlLt at *; omega
theorem plLt_total {a b : Pc} (h : a ≠ b) : PlLt a b ∨ PlLt b a := by
  obtain ⟨a1, a2, a3⟩ := a
  obtain ⟨b1, b2, b3⟩ := b
  have : ¬ (a1 = b1 ∧ a2 = b2 ∧ a3 = b3) := fun ⟨h1, h2, h3⟩ => h (by rw [h1, h2, h3])
  unfold PlLt
  simp only
  omega
/-- in the order of places, no place twice -/
def Srt (L : List Sm) : Prop := L.Pairwise fun a b => PlLt a.pl b.pl
theorem Srt.nil : Srt [] := List.Pairwise.nil
theorem Srt.filter {L : List Sm} (h : Srt L) (f : Sm → Bool) : Srt (L.filter f) := List.Pairwise.filter f h
theorem Srt.ne {L : List Sm} (h : Srt L) : L.Pairwise fun a b => a.pl ≠ b.pl := by
  unfold Srt at h
  refine h.imp ?_
  intro a b k e
  rw [e] at k
  exact plLt_irrefl _ k
theorem Srt.nodup {L : List Sm} (h : Srt L) : L.Nodup := by
  unfold Srt at h
  refine h.imp ?_
  intro a b k e
  rw [e] at k
  exact plLt_irrefl _ k
theorem Srt.places {L : List Sm} (h : Srt L) : (L.map Sm.pl).Nodup := List.pairwise_map.2 h.ne
theorem Srt.perm_eq {A B : List Sm} (ha : Srt A) (hb : Srt B) (hp : A.Perm B) : A = B :=
  List.Perm.eq_of_pairwise (le := fun a b : Sm => PlLt a.pl b.pl) (fun a b _ _ h1 h2 => absurd (plLt_trans h1 h2) (plLt_irrefl _)) ha hb hp
theorem Srt.ext {A B : List Sm} (ha : Srt A) (hb : Srt B) (h : ∀ x, x ∈ A ↔ x ∈ B) : A = B :=
  ha.perm_eq hb ((List.perm_ext_iff_of_nodup ha.nodup hb.nodup).2 h)
/-- a place has one sample -/
theorem Srt.one {L : List Sm} (h : Srt L) {x y : Sm} (hx : x ∈ L) (hy : y ∈ L) (e : x.pl = y.pl) : x = y := by
  obtain ⟨i, hi, rfl⟩ := List.getElem_of_mem hx
  obtain ⟨j, hj, rfl⟩ := List.getElem_of_mem hy
  have h' := List.pairwise_iff_getElem.1 h
  rcases Nat.lt_trichotomy i j with hij | rfl | hij
  · have := h' i j hi hj hij; rw [e] at this; exact absurd this (plLt_irrefl _)
  · rfl
  · have := h' j i hj hi hij; rw [e] at this; exact absurd this (plLt_irrefl _)
/-- is there a sample of this place? -/
def There (L : List Sm) (p : Pc) : Prop := ∃ x ∈ L, x.pl = p
instance (L : List Sm) (p : Pc) : Decidable (There L p) := by unfold There; exact inferInstanceAs (Decidable (∃ x ∈ L, x.pl = p))
/-- one sample more -/
def ins (s : Sm) : List Sm → List Sm
  | [] => [s]
  | x :: r => if PlLt s.pl x.pl then s :: x :: r else x :: ins s r
theorem ins_perm (s : Sm) : ∀ L : List Sm, (ins s L).Perm (s :: L)
  | [] => .refl _
  | x :: r => by
    unfold ins
    split
    · exact .refl _
    · exact ((ins_perm s r).cons x).trans (List.Perm.swap s x r)
theorem mem_ins {s y : Sm} {L : List Sm} : y ∈ ins s L ↔ y = s ∨ y ∈ L := by rw [(ins_perm s L).mem_iff]; simp
theorem length_ins (s : Sm) (L : List Sm) : (ins s L).length = L.length + 1 := by rw [(ins_perm s L).length_eq]; simp
theorem Srt.ins {s : Sm} : ∀ {L : List Sm}, Srt L → ¬ There L s.pl → Srt (ins s L)
  | [], _, _ => by unfold Go.Proofs.Ytogmibmkkmbgoaa.ins; exact List.pairwise_singleton _ _
  | x :: r, h, hn => by
    obtain ⟨h1, h2⟩ := List.pairwise_cons.1 h
    unfold Go.Proofs.Ytogmibmkkmbgoaa.ins
    split
    · next hl => exact List.pairwise_cons.2 ⟨fun y hy => by
        rcases List.mem_cons.1 hy with rfl | hy
        · exact hl
        · exact plLt_trans hl (h1 y hy), h⟩
    · next hl =>
      have hx : PlLt x.pl s.pl := by
        rcases plLt_total (fun e => hn ⟨x, by simp, e⟩ : x.pl ≠ s.pl) with k | k
        · exact k
        · exact absurd k hl
      refine List.pairwise_cons.2 ⟨fun y hy => ?_, Srt.ins h2 (fun ⟨z, hz, e⟩ => hn ⟨z, by simp [hz], e⟩)⟩
      rcases mem_ins.1 hy with rfl | hy
      · exact hx
      · exact h1 y hy
theorem there_ins {s : Sm} {L : List Sm} {p : Pc} : There (ins s L) p ↔ s.pl = p ∨ There L p := by
  constructor
  · rintro ⟨x, hx, e⟩
    rcases mem_ins.1 hx with rfl | hx
    · exact .inl e
    · exact .inr ⟨x, hx, e⟩
  · rintro (e | ⟨x, hx, e⟩)
    · exact ⟨s, mem_ins.2 (.inl rfl), e⟩
    · exact ⟨x, mem_ins.2 (.inr hx), e⟩
/-- what is laid between: the way to put one in from behind -/
theorem ins_at {L : List Sm} (h : Srt L) {s : Sm} (hn : ¬ There L s.pl) {k : Nat} (hk : k ≤ L.length) (hhi : ∀ i, (hi : i < L.length) → k ≤ i → PlLt s.pl L[i].pl) (hlo : ∀ i, (hi : i < L.length) → i < k → PlLt L[i].pl s.pl) :
    L.take k ++ s :: L.drop k = ins s L := by
  refine Srt.perm_eq ?_ (h.ins hn) ?_
  · refine List.pairwise_append.2 ⟨h.sublist (List.take_sublist _ _), List.pairwise_cons.2 ⟨fun y hy => ?_, h.sublist (List.drop_sublist _ _)⟩, fun x hx y hy => ?_⟩
    · obtain ⟨i, hi, rfl⟩ := List.getElem_of_mem hy
      rw [List.getElem_drop]
      exact hhi _ (by simp at hi; omega) (by omega)
    · obtain ⟨i, hi, rfl⟩ := List.getElem_of_mem hx
      rw [List.getElem_take]
      have hi' : i < L.length := by simp at hi; omega
      have h1 : PlLt L[i].pl s.pl := hlo i hi' (by simp at hi; omega)
      rcases List.mem_cons.1 hy with rfl | hy
      · exact h1
      · obtain ⟨j, hj, rfl⟩ := List.getElem_of_mem hy
        rw [List.getElem_drop]
        exact plLt_trans h1 (hhi _ (by simp at hj; omega) (by omega))
  · refine (List.perm_middle).trans (List.Perm.trans ?_ (ins_perm s L).symm)
    rw [List.take_append_drop]
/-- what May tells -/
def mayT (n m f : Int) (L : List Sm) (s : Sm) (now : Int) : Int :=
  if ¬ (0 ≤ s.who ∧ s.who < n ∧ 0 ≤ s.met ∧ s.met < m ∧ 0 ≤ s.val ∧ s.val ≤ 1099511627776) then 1
  else if ¬ (now ≤ s.ep ∧ s.ep - now < f) then 7
  else if There L s.pl then 8 else 0
def putT (n m f : Int) (L : List Sm) (s : Sm) (now : Int) : List Sm := if mayT n m f L s now = 0 then ins s L else L
def ofT (L : List Sm) (e m : Int) : List Sm := L.filter fun s => decide (s.ep = e ∧ s.met = m)
def dropT (L : List Sm) (e : Int) : List Sm := L.filter fun s => decide (e < s.ep)
theorem mayT_none {n m f now : Int} {L : List Sm} {s : Sm} (h : mayT n m f L s now = 0) :
    (0 ≤ s.who ∧ s.who < n ∧ 0 ≤ s.met ∧ s.met < m ∧ 0 ≤ s.val ∧ s.val ≤ 1099511627776) ∧ (now ≤ s.ep ∧ s.ep - now < f) ∧ ¬ There L s.pl := by
  unfold mayT at h
  split at h
  · cases h
  · next h1 =>
    split at h
    · cases h
    · next h2 =>
      split at h
      · cases h
      · next h3 => exact ⟨Classical.not_not.1 h1, Classical.not_not.1 h2, h3⟩
/-- samples of a table of n collectors -/
structure Fine (n : Int) (L : List Sm) : Prop where
  srt : Srt L
  who : ∀ s ∈ L, 0 ≤ s.who ∧ s.who < n
  fit : ∀ s ∈ L, (-9223372036854775808 ≤ s.ep ∧ s.ep ≤ 9223372036854775807) ∧ (0 ≤ s.met ∧ s.met < 4) ∧ (0 ≤ s.who ∧ s.who < 16) ∧ (0 ≤ s.val ∧ s.val ≤ 1099511627776)
theorem Fine.nil (n : Int) : Fine n [] := ⟨Srt.nil, by simp, by simp⟩
theorem Fine.sub {n : Int} {L : List Sm} (h : Fine n L) (f : Sm → Bool) : Fine n (L.filter f) :=
  ⟨h.srt.filter f, fun s hs => h.who s (List.mem_filter.1 hs).1, fun s hs => h.fit s (List.mem_filter.1 hs).1⟩
theorem Fine.put {n m f now : Int} {L : List Sm} {s : Sm} (h : Fine n L) (hn : n ≤ 16) (hm : m ≤ 4) (he : -9223372036854775808 ≤ s.ep ∧ s.ep ≤ 9223372036854775807) : Fine n (putT n m f L s now) := by
  unfold putT
  split
  · next h0 =>
    obtain ⟨h1, h2, h3⟩ := mayT_none h0
    refine ⟨h.srt.ins h3, fun x hx => ?_, fun x hx => ?_⟩
    · rcases mem_ins.1 hx with rfl | hx
      · omega
      · exact h.who x hx
    · rcases mem_ins.1 hx with rfl | hx
      · omega
      · exact h.fit x hx
  · exact h
theorem putT_len (n m f : Int) (L : List Sm) (s : Sm) (now : Int) : (putT n m f L s now).length ≤ L.length + 1 := by
  unfold putT; split
  · rw [length_ins]; exact Nat.le_refl _
  · omega
/-- an epoch's metric, the collectors below k -/
def upT (L : List Sm) (e m : Int) (k : Nat) : List Sm := L.filter fun s => decide (s.ep = e ∧ s.met = m ∧ s.who < k)
theorem upT_zero {n : Int} {L : List Sm} (h : Fine n L) (e m : Int) : upT L e m 0 = [] := by
  refine List.filter_eq_nil_iff.2 fun s hs => ?_
  have := (h.who s hs).1
  simp only [decide_eq_true_eq]; omega
theorem upT_all {n : Int} {L : List Sm} (h : Fine n L) (e m : Int) {k : Nat} (hk : n ≤ k) : upT L e m k = ofT L e m := by
  refine List.filter_congr fun s hs => ?_
  have := (h.who s hs).2
  simp only [decide_eq_decide]; omega
theorem upT_miss {n : Int} {L : List Sm} (h : Fine n L) (e m : Int) {k : Nat} (hn : ¬ There L (e, m, k)) : upT L e m (k + 1) = upT L e m k := by
  refine List.filter_congr fun s hs => ?_
  simp only [decide_eq_decide]
  constructor
  · rintro ⟨h1, h2, h3⟩
    refine ⟨h1, h2, ?_⟩
    by_cases hw : s.who = k
    · exact absurd ⟨s, hs, by unfold Sm.pl; rw [h1, h2, hw]⟩ hn
    · omega
  · rintro ⟨h1, h2, h3⟩
    exact ⟨h1, h2, by omega⟩
theorem upT_hit {n : Int} {L : List Sm} (h : Fine n L) {e m v : Int} {k : Nat} (hm : (⟨k, m, e, v⟩ : Sm) ∈ L) : upT L e m (k + 1) = upT L e m k ++ [⟨k, m, e, v⟩] := by
  refine Srt.ext (h.srt.filter _) ?_ fun x => ?_
  · refine List.pairwise_append.2 ⟨h.srt.filter _, List.pairwise_singleton _ _, fun x hx y hy => ?_⟩
    have h1 := (List.mem_filter.1 hx).2
    simp only [List.mem_singleton] at hy
    subst hy
    simp only [decide_eq_true_eq] at h1
    unfold PlLt Sm.pl
    simp only
    omega
  · simp only [upT, List.mem_append, List.mem_filter, decide_eq_true_eq, List.mem_singleton]
    constructor
    · rintro ⟨hx, h1, h2, h3⟩
      by_cases hw : x.who = k
      · exact .inr (h.srt.one hx hm (by unfold Sm.pl; simp [h1, h2, hw]))
      · exact .inl ⟨hx, h1, h2, by omega⟩
    · rintro (⟨hx, h1, h2, h3⟩ | rfl)
      · exact ⟨hx, h1, h2, by omega⟩
      · exact ⟨hm, rfl, rfl, by simp only; omega⟩
theorem ofT_len (L : List Sm) (e m : Int) : (ofT L e m).length ≤ L.length := List.length_filter_le _ _
end Go.Proofs.Ytogmibmkkmbgoaa
