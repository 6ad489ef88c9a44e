/-
  The document's SameSamples: are two lists of samples one? No condition.
-/
import Derived.Test.YtjjcnojckbeekaaTbZ
import Derived.Test.YtjjcnojckbeekaaGen
import Derived.Test.YtjjcnojckbeekaaRows
import Derived.Laws.StructEq
import Derived.LoopTactic
import Derived.BigQuiet
set_option linter.unusedSimpArgs false
set_option linter.unusedVariables false
namespace Go.Proofs.Ytjjcnojckbeekaa
set_option maxRecDepth 100000
open Go.RowKit

theorem smEq_self (a : Sm) : smEq a a = true := (smEq_iff a a).2 rfl
theorem smEq_ne {a b : Sm} (h : a ≠ b) : smEq a b = false := by
  cases e : smEq a b
  · rfl
  · exact absurd ((smEq_iff a b).1 e) h
instance : DecidableEq Sm := fun a b => if h : smEq a b = true then isTrue ((smEq_iff a b).1 h) else isFalse fun e => h ((smEq_iff a b).2 e)
set_option maxHeartbeats 1600000 in
theorem smp_equal (a b : Sm) (w : World) : (Op.equalIn 10000 29 (.agg #[.int .i64 a.who, .int .i64 a.met, .int .i64 a.ep, .int .i64 a.val]) (.agg #[.int .i64 b.who, .int .i64 b.met, .int .i64 b.ep, .int .i64 b.val])).run Try.prog w = .ok (smEq a b) w := by
  unfold smEq
  rw [run_equalIn_agg w 9999 29 _ _ (by kernel_rfl) (by kernel_rfl)]
  simp [go_sem]
  (repeat' split) <;> simp [*]
theorem gb_drewM (w : World) (n : Nat) : w.grownBy (w.drewN n) none := ⟨rfl, rfl, rfl, Nat.le_refl _, fun _ _ _ => rfl⟩
set_option maxHeartbeats 1600000 in
theorem sameS_any (v v' : Value) (l l' : List Sm) (w : World) (h : SAt w v l) (h' : SAt w v' l') (h1 : l.length ≤ 1000000) (h1' : l'.length ≤ 1000000) (res : Bool) (hr : decide (l = l') = res) :
    Calls Try.prog 16 #[v, v'] w fun e w' => e = .returned (.bool res) ∧ w.grownBy w' none := by
  have HI := hid h; have HJ := hid h'
  have HR := hid hr; clear hr
  obtain ⟨p, c, rfl⟩ := h.form
  obtain ⟨p', c', rfl⟩ := h'.form
  by_cases hlen : l.length = l'.length
  · obtain ⟨n, hn⟩ : ∃ n, l.length = n := ⟨_, rfl⟩
    have hn' : l'.length = n := by omega
    rw [hn] at HI h1 ⊢
    rw [hn'] at HJ ⊢
    have HN := hid hn; have HN' := hid hn'
    clear h h' hn hn' hlen h1'
    go_enter Try.func16, Try.ntmps16
    go_wp2_with fail
    go_loopw [5] (fun i wr => ∃ k : Nat, k ≤ n ∧ i = .int .i64 (k : Int) ∧ (∀ j, j < k → l[j]? = l'[j]?) ∧ w.grownBy wr none) (fun i _ => n - (intOf i).toNat)
    case atStart => exact ⟨0, Nat.zero_le _, rfl, fun j h => absurd h (Nat.not_lt_zero j), .refl w none⟩
    case round =>
      obtain ⟨k, hk, rfl, hall, hgr⟩ := hrel
      have HA := hid hall; have HG := hid hgr; clear hall hgr
      by_cases hlt : k < n
      · have k1 : k < l.length := by rw [HN.out]; exact hlt
        have k2 : k < l'.length := by rw [HN'.out]; exact hlt
        obtain ⟨ab, ao, rfl, -, hcc, a0, a1, a2, a3⟩ := (HI.out.grown HG.out).cells k1
        obtain ⟨bb, bo, rfl, -, hcc', b0, b1, b2, b3⟩ := (HJ.out.grown HG.out).cells k2
        have e1 := List.getElem?_eq_getElem k1
        have e2 := List.getElem?_eq_getElem k2
        have hq := smp_equal l[k] l'[k]
        generalize l[k] = x at *
        generalize l'[k] = y at *
        have E1 := hid e1; have E2 := hid e2; clear e1 e2
        by_cases hxy : x = y
        · have d0 : smEq x y = true := by rw [hxy]; exact smEq_self y
          rw [d0] at hq
          have ha2 : ∀ j, j < k + 1 → l[j]? = l'[j]? := fun j hj => by
            by_cases e : j = k
            · subst e; rw [E1.out, E2.out, hxy]
            · exact HA.out j (by omega)
          have HA2 := hid ha2
          clear ha2 hxy E1 E2 d0
          go_wp2_with fail
          go_quiet (fail)
          go_wp2_with fail
          go_roundw
          case rel => exact ⟨k + 1, by omega, by go_num, HA2.out, gb_trans HG.out (gb_drewM _ _) (.inl rfl)⟩
          case measure => simp [intOf]; omega
        · have d0 : smEq x y = false := smEq_ne hxy
          rw [d0] at hq
          have hd : decide (l = l') = false := decide_eq_false fun e => by
            subst e
            have := E1.out.symm.trans E2.out
            exact hxy (Option.some.inj this)
          have hr := HR.out
          rw [hd] at hr
          subst hr
          clear hd HR hxy E1 E2 HA d0
          go_wp2_with fail
          go_quiet (fail)
          go_wp2_with fail
          go_ret
          exact ⟨rfl, gb_trans HG.out (gb_drewM _ _) (.inl rfl)⟩
      · obtain rfl : k = n := by omega
        have hd : decide (l = l') = true := decide_eq_true (List.ext_getElem? fun j => by
          by_cases hj : j < k
          · exact HA.out j hj
          · rw [List.getElem?_eq_none (by have := HN.out; omega), List.getElem?_eq_none (by have := HN'.out; omega)])
        have hr := HR.out
        rw [hd] at hr
        subst hr
        clear hd HR HA
        go_wp2_with fail
        go_ret
        exact ⟨rfl, HG.out⟩
  · have hd : decide (l = l') = false := decide_eq_false fun e => hlen (by rw [e])
    have hr := HR.out
    rw [hd] at hr
    subst hr
    have h2 : ¬ ((l.length : Int) = (l'.length : Int)) := by omega
    clear hd HR h h' HI HJ
    go_enter Try.func16, Try.ntmps16
    go_wp2_with fail
    go_ret
    exact ⟨rfl, .refl w none⟩
end Go.Proofs.Ytjjcnojckbeekaa
