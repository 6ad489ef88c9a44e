/-
  Contracts for the program's 'begin': the words of a hash are made from the key at the first call, and are left as they are at each later one. The condition: the hash's block is as the program makes it, its lock free.
-/
import Derived.Test.YtgpdcapnnejdeaaGreatNOnce
import Derived.Test.YtgpdcapnnejdeaaGreatY2
namespace Go.Proofs.YtgpdcapnnejdeaaGreat
open Go.RowKit

def keyed (k0 k1 : BitVec 64) : W4 := ⟨k0 ^^^ 8317987319222330741#64, k1 ^^^ 7237128888997146477#64, k0 ^^^ 7816392313619706465#64, k1 ^^^ 8387220255154660723#64⟩

theorem xk0 (x : BitVec 64) : bits .xor .u64 (q x) 8317987319222330741 = q (x ^^^ 8317987319222330741#64) := q_xor_num x _
theorem xk1 (x : BitVec 64) : bits .xor .u64 (q x) 7237128888997146477 = q (x ^^^ 7237128888997146477#64) := q_xor_num x _
theorem xk2 (x : BitVec 64) : bits .xor .u64 (q x) 7816392313619706465 = q (x ^^^ 7816392313619706465#64) := q_xor_num x _
theorem xk3 (x : BitVec 64) : bits .xor .u64 (q x) 8387220255154660723 = q (x ^^^ 8387220255154660723#64) := q_xor_num x _
attribute [go_sem ↓] xk0 xk1 xk2 xk3

@[reducible] def hashObj (done : Int) (a b c d rest : BitVec 64) (size : Int) : Obj :=
 .cells #[.int .u32 done, .int .i32 0, .int .u32 0, .int .u64 (q a), .int .u64 (q b), .int .u64 (q c), .int .u64 (q d), .int .u64 (q rest), .int .u8 size] 214

set_option maxRecDepth 100000 in
set_option maxHeartbeats 1600000 in
theorem slow_any (b kb pb : Nat) (hk : b ≠ kb) (hp : b ≠ pb) (k0 k1 v0 v1 v2 v3 r : BitVec 64) (s : Int) (w : World)
  (hb : w.heap[b]? = some (hashObj 0 v0 v1 v2 v3 r s))
  (hkb : w.heap[kb]? = some (.cells #[.int .u64 (q k0), .int .u64 (q k1)] 49))
  (hpb : w.heap[pb]? = some (.cells #[.pointer (some ⟨b, 0, none⟩)] 184)) :
  Calls Tryz.prog 139 #[.pointer (some ⟨b, 0, none⟩), .func (.func 136) #[] #[.pointer (some ⟨kb, 0, none⟩), .pointer (some ⟨pb, 0, none⟩)]] w fun e w' => e = .returned (.tuple #[]) ∧
   w'.heap[b]? = some (hashObj 1 (keyed k0 k1).a (keyed k0 k1).b (keyed k0 k1).c (keyed k0 k1).d r s) ∧ w.grownBy w' (some b) := by
 -- the world in which the lock is held
 have hb1 := at_set hb 1 (.int .i32 1)
 have hkb1 := at_set_other (p := ⟨b, 1, none⟩) hkb (fun h => hk h.symm) (.int .i32 1)
 have hpb1 := at_set_other (p := ⟨b, 1, none⟩) hpb (fun h => hp h.symm) (.int .i32 1)
 have c1 : w.cell? ⟨b, 1, none⟩ = some (.int .i32 0) := at_cell hb 1
 have f1 : w.frozen? ⟨b, 1, none⟩ = false := at_free hb 1
 have hl := run_call_load (P := Tryz.prog) Tryz.func128 (by kernel_rfl) (by kernel_rfl) (by kernel_rfl) .u32 (by kernel_rfl) (w := w.setCell ⟨b, 1, none⟩ (.int .i32 1)) (a := ⟨b, 0, none⟩) (x := 0) (at_cell hb1 0)
 have hnot : ∀ (x : Bool) (w : World), (Op.unary .not (.bool x)).run Tryz.prog w = .ok (.bool (!x)) w := fun _ _ => rfl
 have p0 : (w.setCell ⟨b, 1, none⟩ (.int .i32 1)).cell? ⟨pb, 0, none⟩ = some (.pointer (some ⟨b, 0, none⟩)) := at_cell hpb1 0
 have q0 : (w.setCell ⟨b, 1, none⟩ (.int .i32 1)).cell? ⟨kb, 0, none⟩ = some (.int .u64 (q k0)) := at_cell hkb1 0
 have q1 : (w.setCell ⟨b, 1, none⟩ (.int .i32 1)).cell? ⟨kb, 1, none⟩ = some (.int .u64 (q k1)) := at_cell hkb1 1
 have x3 : (w.setCell ⟨b, 1, none⟩ (.int .i32 1)).cell? ⟨b, 3, none⟩ = some (.int .u64 (q v0)) := at_cell hb1 3
 have x4 : (w.setCell ⟨b, 1, none⟩ (.int .i32 1)).cell? ⟨b, 4, none⟩ = some (.int .u64 (q v1)) := at_cell hb1 4
 have x5 : (w.setCell ⟨b, 1, none⟩ (.int .i32 1)).cell? ⟨b, 5, none⟩ = some (.int .u64 (q v2)) := at_cell hb1 5
 have x6 : (w.setCell ⟨b, 1, none⟩ (.int .i32 1)).cell? ⟨b, 6, none⟩ = some (.int .u64 (q v3)) := at_cell hb1 6
 have fz : ∀ i, w.frozen? ⟨b, i, none⟩ = false := fun i => at_free hb i
 have HB := hid hb; have HB1 := hid hb1
 clear hb hkb hpb hb1 hkb1 hpb1
 go_enter_defers Tryz.func139, Tryz.ntmps139
 go_wp2_with (go_at_call 141; refine (lock_free ⟨b, 1, none⟩ _ (by go_simp) (by go_simp)).mono ?_; rintro e w' ⟨rfl, rfl⟩)
 go_wp2
 go_end0
 go_wp2
 have hb3 := at_set (at_set (at_set (at_set HB1.out 3 (.int .u64 (q (keyed k0 k1).a))) 4 (.int .u64 (q (keyed k0 k1).b))) 5 (.int .u64 (q (keyed k0 k1).c))) 6 (.int .u64 (q (keyed k0 k1).d))
 have hb4 := at_set (at_drew hb3) 0 (.int .u32 1)
 have hb5 := at_set hb4 1 (.int .i32 0)
 have hg3 := gb_row (gb_row (gb_row (gb_row (gb_row (.refl w (some b)) (p := ⟨b, 1, none⟩) rfl (.int .i32 1)) (p := ⟨b, 3, none⟩) rfl (.int .u64 (q (keyed k0 k1).a))) (p := ⟨b, 4, none⟩) rfl (.int .u64 (q (keyed k0 k1).b))) (p := ⟨b, 5, none⟩) rfl (.int .u64 (q (keyed k0 k1).c))) (p := ⟨b, 6, none⟩) rfl (.int .u64 (q (keyed k0 k1).d))
 have hg5 := gb_row (gb_row (gb_drew hg3) (p := ⟨b, 0, none⟩) rfl (.int .u32 1)) (p := ⟨b, 1, none⟩) rfl (.int .i32 0)
 -- the door: two deferred calls, the last laid first
 refine leaves_cons (f := 143) (args := #[.pointer (some ⟨b, 0, none⟩), .bool true]) (by simp) (by simp [go_sem]) ?_
 refine (store_deferred ⟨b, 0, none⟩ (.int .u32 0) .returning _ (at_cell hb3 0) (at_free hb3 0)).mono ?_
 rintro e u' w'' ⟨rfl, rfl, rfl⟩
 refine leaves_cons (f := 142) (args := #[.pointer (some ⟨b, 1, none⟩)]) (by simp [settle]) (by simp [go_sem]) ?_
 refine (unlock_deferred ⟨b, 1, none⟩ _ _ (at_cell hb4 1) (at_free hb4 1)).mono ?_
 rintro e u' w'' ⟨rfl, rfl, rfl⟩
 clear hb3 hb4 hg3 x3 x4 x5 x6 p0 q0 q1 hl HB HB1 fz c1 f1 hnot
 have H5 := hid hb5; have G5 := hid hg5; clear hb5 hg5
 simp [Go.Leaves, settle, results, Tryz.results139]
 exact ⟨H5.out, G5.out⟩

set_option maxHeartbeats 800000 in
theorem do_first (b kb pb : Nat) (hk : b ≠ kb) (hp : b ≠ pb) (k0 k1 v0 v1 v2 v3 r : BitVec 64) (s : Int) (w : World)
  (hb : w.heap[b]? = some (hashObj 0 v0 v1 v2 v3 r s))
  (hkb : w.heap[kb]? = some (.cells #[.int .u64 (q k0), .int .u64 (q k1)] 49))
  (hpb : w.heap[pb]? = some (.cells #[.pointer (some ⟨b, 0, none⟩)] 184)) :
  Calls Tryz.prog 133 #[.pointer (some ⟨b, 0, none⟩), .func (.func 136) #[] #[.pointer (some ⟨kb, 0, none⟩), .pointer (some ⟨pb, 0, none⟩)]] w fun e w' => e = .returned (.tuple #[]) ∧
   w'.heap[b]? = some (hashObj 1 (keyed k0 k1).a (keyed k0 k1).b (keyed k0 k1).c (keyed k0 k1).d r s) ∧ w.grownBy w' (some b) := by
 have hl := run_call_load (P := Tryz.prog) Tryz.func128 (by kernel_rfl) (by kernel_rfl) (by kernel_rfl) .u32 (by kernel_rfl) (w := w) (a := ⟨b, 0, none⟩) (x := 0) (at_cell hb 0)
 have hnot : ∀ (x : Bool) (w : World), (Op.unary .not (.bool x)).run Tryz.prog w = .ok (.bool (!x)) w := fun _ _ => rfl
 have HB := hid hb; have HK := hid hkb; have HP := hid hpb
 clear hb hkb hpb
 go_enter Tryz.func133, Tryz.ntmps133
 go_wp2_with (go_at_call 138; go_in)
 refine (slow_any b kb pb hk hp k0 k1 v0 v1 v2 v3 r s _ HB.out HK.out HP.out).mono ?_
 rintro e w' ⟨rfl, h1, h2⟩
 have H1 := hid h1; clear h1
 go_wp2
 go_end0
 exact ⟨rfl, H1.out, h2⟩

set_option maxHeartbeats 800000 in
theorem begin_first (b : Nat) (k0 k1 v0 v1 v2 v3 r : BitVec 64) (s : Int) (w : World)
  (hb : w.heap[b]? = some (hashObj 0 v0 v1 v2 v3 r s)) :
  Calls Tryz.prog 129 #[.pointer (some ⟨b, 0, none⟩), .agg #[.int .u64 (q k0), .int .u64 (q k1)]] w fun e w' => e = .returned (.tuple #[]) ∧
   w'.heap[b]? = some (hashObj 1 (keyed k0 k1).a (keyed k0 k1).b (keyed k0 k1).c (keyed k0 k1).d r s) ∧ w.grownBy w' (some b) := by
 have hmf : ∀ (fn : Fn) (first cap : Array Value) (w : World), (Instr.makeFunc fn first cap).run Tryz.prog w = .ok (.func fn first cap) w := fun _ _ _ _ => rfl
 have hlt := at_lt hb
 have HB := hid hb
 clear hb
 go_enter Tryz.func129, Tryz.ntmps129
 go_wp2_with fail
 refine (do_first b (w.heap.size + 1) w.heap.size (by omega) (by omega) k0 k1 v0 v1 v2 v3 r s _ (at_alloc (at_alloc HB.out _) _) (by simpa using at_new (w.alloc _) _) (at_alloc (at_new w _) _)).mono ?_
 rintro e w' ⟨rfl, h1, h2⟩
 have H1 := hid h1; clear h1
 go_wp2
 go_end0
 exact ⟨rfl, H1.out, gb_trans (gb_alloc (gb_alloc (.refl _ _) _) _) h2 (.inr (.inl rfl))⟩

set_option maxHeartbeats 800000 in
theorem begin_done (b : Nat) (k0 k1 v0 v1 v2 v3 r : BitVec 64) (s : Int) (w : World)
  (hb : w.heap[b]? = some (hashObj 1 v0 v1 v2 v3 r s)) :
  Calls Tryz.prog 129 #[.pointer (some ⟨b, 0, none⟩), .agg #[.int .u64 (q k0), .int .u64 (q k1)]] w fun e w' => e = .returned (.tuple #[]) ∧ w.grownBy w' none := by
 have hmf : ∀ (fn : Fn) (first cap : Array Value) (w : World), (Instr.makeFunc fn first cap).run Tryz.prog w = .ok (.func fn first cap) w := fun _ _ _ _ => rfl
 have HB := hid hb
 clear hb
 go_enter Tryz.func129, Tryz.ntmps129
 go_wp2_with fail
 refine (do_done ⟨b, 0, none⟩ 1 (by decide) _ _ (at_cell (at_alloc (at_alloc HB.out _) _) 0)).mono ?_
 rintro e w' ⟨rfl, rfl⟩
 go_wp2
 go_end0
 exact ⟨rfl, gb_alloc (gb_alloc (.refl _ _) _) _⟩
end Go.Proofs.YtgpdcapnnejdeaaGreat
