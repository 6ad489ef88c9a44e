/-
  Contracts for wire.Seal and bytes.Clone: a message's bytes and behind them their tag, in a slice of the call's own; an error of one that may not be; bytes copied. No condition.
-/
import Derived.Test.YtjmcjkmfpcphnaaWPut
import Derived.Test.YtjmcjkmfpcphnaaMacF
import Derived.Lib.SliceRun
set_option linter.unusedSimpArgs false
set_option linter.unusedVariables false
namespace Go.Proofs.Ytjmcjkmfpcphnaa
set_option maxRecDepth 100000
open Go.RowKit

/-- a tag's bytes -/
def tagB (k0 k1 : BitVec 64) (l : List UInt8) : List UInt8 := put8 (sumOf k0 k1 l) ++ put8 (sumOf k1 (inv k0) l)
theorem tagB_length (k0 k1 : BitVec 64) (l : List UInt8) : (tagB k0 k1 l).length = 16 := rfl
def sealOf (k0 k1 : BitVec 64) (m : Mg) : List UInt8 := putOf m ++ tagB k0 k1 (putOf m)
theorem sealOf_length (k0 k1 : BitVec 64) (m : Mg) : (sealOf k0 k1 m).length = 48 := rfl

/-- the function's own blocks: the key and the message that came in; all else as it was, or new -/
structure KM (w : World) (k0 k1 : BitVec 64) (m : Mg) (w' : World) : Prop where
  key : w'.heap[w.heap.size]? = some (.cells #[.int .u64 (q k0), .int .u64 (q k1)] 53)
  msg : w'.heap[w.heap.size + 1]? = some (.cells m.cells 23)
  g : w.grownBy w' none
theorem KM.grown {w : World} {k0 k1 : BitVec 64} {m : Mg} {w1 w2 : World} (h : KM w k0 k1 m w1) (hg : w1.grownBy w2 none) : KM w k0 k1 m w2 := ⟨at_grown h.key hg (by simp), at_grown h.msg hg (by simp), gb_trans h.g hg (.inl rfl)⟩
theorem km_new (w : World) (k0 k1 : BitVec 64) (m : Mg) : KM w k0 k1 m ((w.alloc (.cells #[.int .u64 (q k0), .int .u64 (q k1)] 53)).alloc (.cells m.cells 23)) :=
  ⟨at_alloc (at_new w _) _, by rw [← size_alloc w (.cells #[.int .u64 (q k0), .int .u64 (q k1)] 53)]; exact at_new _ _, gb_alloc (gb_alloc (.refl w none) _) _⟩

set_option maxHeartbeats 1600000 in
theorem seal_bad (k0 k1 : BitVec 64) (m : Mg) (hm : mayOf m = false) (w : World) :
    Calls Try.prog 11 #[pair k0 k1, mg m] w fun e w' => e = .returned (.tuple #[.slice none 0 0, .int .i64 1]) ∧ w.grownBy w' none := by
  have C := hid (fun w => wput_bad m hm w)
  have K := hid (km_new w k0 k1 m)
  clear hm
  go_enter Try.func11, Try.ntmps11
  go_wp2_with (refine wpList_row K.out.msg Try.underlying23 rfl (by kernel_rfl) rfl rfl rfl rfl ?_)
  refine (C.out _).mono ?_
  rintro e w1 ⟨rfl, hg⟩
  have G := hid (gb_trans K.out.g hg (.inl rfl)); clear hg
  go_wp2_with fail
  go_ret2
  exact ⟨rfl, G.out⟩

set_option maxHeartbeats 3200000 in
theorem seal_good (k0 k1 : BitVec 64) (m : Mg) (hm : mayOf m = true) (w : World) :
    Calls Try.prog 11 #[pair k0 k1, mg m] w fun e w' => ∃ v, e = .returned (.tuple #[v, .int .i64 0]) ∧ OwnB w.heap.size w' v (sealOf k0 k1 m) ∧ w.grownBy w' none := by
  have C := hid (fun w => wput_good m hm w)
  have K := hid (km_new w k0 k1 m)
  clear hm
  obtain ⟨l, hl⟩ : ∃ l, putOf m = l := ⟨_, rfl⟩
  have hll : l.length = 32 := by rw [← hl]; rfl
  unfold sealOf tagB
  rw [hl] at C ⊢
  have LL := hid hll; clear hl hll
  obtain ⟨a, ha⟩ : ∃ a, sumOf k0 k1 l = a := ⟨_, rfl⟩
  obtain ⟨b, hb⟩ : ∃ b, sumOf k1 (inv k0) l = b := ⟨_, rfl⟩
  have T := hid (fun v w h => tag_any k0 k1 v l w h)
  rw [ha, hb] at T ⊢
  clear ha hb
  go_enter Try.func11, Try.ntmps11
  go_wp2_with (refine wpList_row K.out.msg Try.underlying23 rfl (by kernel_rfl) rfl rfl rfl rfl ?_)
  refine (C.out _).mono ?_
  rintro e w1 ⟨v, rfl, ho, hg⟩
  have ho' := ho.le (gb_size K.out.g)
  have K1 := hid (K.out.grown hg); have O1 := hid ho'; clear ho ho' hg K
  obtain ⟨c0, c1⟩ := pair_cells K1.out.key
  go_wp2_with fail
  clear c0 c1
  refine (T.out _ _ O1.out.bytes).mono ?_
  rintro e w2 ⟨rfl, hg⟩
  have K2 := hid (K1.out.grown hg); have O2 := hid (O1.out.grown hg (by simp)); clear hg K1 O1
  go_wp2_with fail
  refine (bytes_any a b _).mono ?_
  rintro e w3 ⟨u, rfl, hu, hg⟩
  have K3 := hid (K2.out.grown hg); have O3 := hid (O2.out.grown hg (by simp)); have U3 := hid hu.bytes; clear hg K2 O2 hu
  have hs : w.heap.size ≤ w3.heap.size := gb_size K3.out.g
  go_wp2_with (refine append_bytes rfl _ _ rfl w.heap.size _ _ rfl O3.out _ _ rfl U3.out (by rw [LL.out]; simp [put8_length]) hs ?_; intro u1 w4 o4 g4 a4)
  go_ret2
  exact ⟨_, rfl, o4, gb_own K3.out.g O3.out (Nat.le_refl _) g4⟩

set_option maxHeartbeats 1600000 in
/-- bytes in a slice that is not nil, copied -/
theorem clone_some (a : Addr) (n c : Nat) (l : List UInt8) (hn : l.length = n) (h1 : n ≤ 100000) (w : World) (hl : BytesAt w (.slice (some a) n c) l) :
    Calls Try.prog 31 #[.slice (some a) n c] w fun e w' => ∃ v, e = .returned v ∧ OwnB w.heap.size w' v l ∧ w.grownBy w' none := by
  have HL := hid hl; have HN := hid hn; clear hl hn
  have hnil := Lib.run_eql_slice_nil w 26 5 (some a) n c 0 0 Try.underlying26
  have he := OwnB.empty w
  have HE := hid he; clear he
  have BA := hid (HL.out.alloc (.cells #[] 5))
  go_enter Try.func31, Try.ntmps31
  go_wp2_with (refine append_bytes rfl _ _ rfl w.heap.size _ [] rfl HE.out _ l rfl BA.out (by rw [HN.out]; simp; omega) (gb_size (gb_alloc (.refl w none) _)) ?_; intro u1 w4 o4 g4 a4)
  go_ret
  exact ⟨_, rfl, by simpa using o4, gb_own (gb_alloc (.refl w none) _) HE.out (Nat.le_refl _) g4⟩
end Go.Proofs.Ytjmcjkmfpcphnaa
