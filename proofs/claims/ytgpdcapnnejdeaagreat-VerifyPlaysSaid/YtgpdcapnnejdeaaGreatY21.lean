/-
  Contracts for making a ring: the program's and the document's. No condition. And 1 texts more that this one stands on. No condition.
-/
import Derived.Test.YtgpdcapnnejdeaaGreatNRfB
import Derived.Test.YtgpdcapnnejdeaaGreatY12
import Derived.Test.YtgpdcapnnejdeaaGreatNSlR
section
set_option linter.unusedSimpArgs false
set_option linter.unusedVariables false
namespace Go.Proofs.YtgpdcapnnejdeaaGreat
set_option maxRecDepth 100000
open Go.RowKit

theorem made_all (a : Value) (m j : Nat) (h : j < m) : (madeCells #[a, a] m)[j]? = some a := by
 have : j % 2 = 0 ∨ j % 2 = 1 := by omega
 rcases this with e | e <;> simp [madeCells, h, e]
theorem made_one (a : Value) (m j : Nat) (h : j < m) : (madeCells #[a] m)[j]? = some a := by
 rw [← Array.getElem?_toList, toList_madeCells_one, List.getElem?_replicate, if_pos h]
theorem info_holder : (Tryz.prog.info? 141).map (fun i => (i.zero, i.size, i.bytes)) = some (some (.agg #[.int .i64 0, .int .i64 0]), 2, 16) := by kernel_rfl
theorem info_int : (Tryz.prog.info? 3).map (fun i => (i.zero, i.size, i.bytes)) = some (some (.int .i64 0), 1, 8) := by kernel_rfl
theorem info_int64 : (Tryz.prog.info? 2).map (fun i => (i.zero, i.size, i.bytes)) = some (some (.int .i64 0), 1, 8) := by kernel_rfl
def hCells (n : Nat) : Array Value := madeCells #[.int .i64 0, .int .i64 0] (n * 2)
def iCells (n : Nat) : Array Value := madeCells #[.int .i64 0] n
theorem mk_holders (n : Nat) (hn : n ≤ 16) (u : World) : (Instr.makeSlice 156 (.int .i64 (n : Int)) (.int .i64 (n : Int))).run Tryz.prog u = .ok (.slice (some ⟨u.heap.size, 0, none⟩) n n) (u.alloc (.cells (hCells n) 141)) := by
 obtain ⟨i, hi, hz0, hz1, hz2⟩ := info_parts info_holder
 have := run_makeSlice (P := Tryz.prog) u 156 141 i _ Tryz.underlying156 hi hz0 .i64 .i64 (n : Int) (n : Int) (by omega) (Int.le_refl _) (by rw [hz1]; omega) (by rw [hz2]; omega) (by omega)
 rw [this, hz1]
 simp [hCells, Value.cells]
theorem mk_ints (n : Nat) (hn : n ≤ 16) (u : World) : (Instr.makeSlice 22 (.int .i64 (n : Int)) (.int .i64 (n : Int))).run Tryz.prog u = .ok (.slice (some ⟨u.heap.size, 0, none⟩) n n) (u.alloc (.cells (iCells n) 3)) := by
 obtain ⟨i, hi, hz0, hz1, hz2⟩ := info_parts info_int
 have := run_makeSlice (P := Tryz.prog) u 22 3 i _ Tryz.underlying22 hi hz0 .i64 .i64 (n : Int) (n : Int) (by omega) (Int.le_refl _) (by rw [hz1]; omega) (by rw [hz2]; omega) (by omega)
 rw [this, hz1]
 simp [iCells, Value.cells]
theorem mk_int64s (n : Nat) (hn : n ≤ 16) (u : World) : (Instr.makeSlice 60 (.int .i64 (n : Int)) (.int .i64 (n : Int))).run Tryz.prog u = .ok (.slice (some ⟨u.heap.size, 0, none⟩) n n) (u.alloc (.cells (iCells n) 2)) := by
 obtain ⟨i, hi, hz0, hz1, hz2⟩ := info_parts info_int64
 have := run_makeSlice (P := Tryz.prog) u 60 2 i _ Tryz.underlying60 hi hz0 .i64 .i64 (n : Int) (n : Int) (by omega) (Int.le_refl _) (by rw [hz1]; omega) (by rw [hz2]; omega) (by omega)
 rw [this, hz1]
 simp [iCells, Value.cells]

def MadeR (w : World) (r : Rg) (e : Ending) (w' : World) : Prop := ∃ b h, e = .returned (.pointer (some ⟨b, 0, none⟩)) ∧ RgAt w' b h r ∧ w.grownBy w' none ∧ w.heap.size ≤ b ∧ w.heap.size ≤ h
def MadeF (w : World) (r : Rg) (e : Ending) (w' : World) : Prop := ∃ b g s, e = .returned (.pointer (some ⟨b, 0, none⟩)) ∧ RfAt w' b g s r ∧ w.grownBy w' none ∧ w.heap.size ≤ b ∧ w.heap.size ≤ g ∧ w.heap.size ≤ s

theorem made_rg (seed : BitVec 64) (n grace : Nat) (h1 : 1 ≤ n) (h2 : n ≤ 16) (h3 : 1 ≤ grace) (h4 : grace ≤ 100) (w : World) :
  RgAt ((w.alloc (.cells (hCells n) 141)).alloc (.cells #[.int .u64 (q seed), .int .i64 (grace : Int), .slice (some ⟨w.heap.size, 0, none⟩) n n] 158)) (w.heap.size + 1) w.heap.size (.new seed n grace) :=
 ⟨at_new2 w _ _, ⟨_, at_alloc (at_new w _) _, fun i hi => ⟨made_all _ _ _ (by have : i < n := hi; omega), made_all _ _ _ (by have : i < n := hi; omega)⟩⟩, by omega, rg_new_ok seed h1 h2 h3 h4⟩

set_option maxHeartbeats 1600000 in
theorem rnew_ok (seed : BitVec 64) (n grace : Nat) (h1 : 1 ≤ n) (h2 : n ≤ 16) (h3 : 1 ≤ grace) (h4 : grace ≤ 100) (w : World) :
  Calls Tryz.prog 41 #[.int .u64 (q seed), .int .i64 (n : Int), .int .i64 (grace : Int)] w (MadeR w (.new seed n grace)) := by
 have L := hid (made_rg seed n grace h1 h2 h3 h4 w)
 have hm := mk_holders n h2 w
 go_enter Tryz.func41, Tryz.ntmps41
 go_wp2_with fail
 refine (within_in (n : Int) 1 16 (by omega) (by omega) _).mono ?_
 rintro e w1 ⟨rfl, rfl⟩
 go_wp2_with fail
 refine (within_in (grace : Int) 1 100 (by omega) (by omega) _).mono ?_
 rintro e w1 ⟨rfl, rfl⟩
 go_wp2_with fail
 go_ret
 exact ⟨_, _, rfl, L.out, gb_alloc (gb_alloc (.refl w none) _) _, by omega, Nat.le_refl _⟩

theorem made_rf1 (seed : BitVec 64) (n grace : Nat) (h1 : 1 ≤ n) (h2 : n ≤ 16) (h3 : 1 ≤ grace) (h4 : grace ≤ 100) (w : World) :
  RfAt (((w.alloc (.cells (iCells n) 3)).alloc (.cells (iCells n) 2)).alloc (.cells #[.int .u64 (q seed), .int .i64 (grace : Int), .slice (some ⟨w.heap.size, 0, none⟩) n n, .slice (some ⟨w.heap.size + 1, 0, none⟩) n n] 62)) (w.heap.size + 1 + 1) w.heap.size (w.heap.size + 1) (.new seed n grace) :=
 ⟨by have := at_new2 (w.alloc (.cells (iCells n) 3)) (.cells (iCells n) 2) (.cells #[.int .u64 (q seed), .int .i64 (grace : Int), .slice (some ⟨w.heap.size, 0, none⟩) n n, .slice (some ⟨w.heap.size + 1, 0, none⟩) n n] 62); rwa [size_alloc] at this,
  ⟨_, at_alloc (at_alloc (at_new w _) _) _, fun i hi => made_one _ _ _ hi⟩, ⟨_, at_alloc (at_new2 w _ _) _, fun i hi => made_one _ _ _ hi⟩, by omega, by omega, by omega, rg_new_ok seed h1 h2 h3 h4⟩
theorem made_rf2 (seed : BitVec 64) (n grace : Nat) (h1 : 1 ≤ n) (h2 : n ≤ 16) (h3 : 1 ≤ grace) (h4 : grace ≤ 100) (w : World) :
  RfAt (((w.alloc (.cells (iCells n) 2)).alloc (.cells (iCells n) 3)).alloc (.cells #[.int .u64 (q seed), .int .i64 (grace : Int), .slice (some ⟨w.heap.size + 1, 0, none⟩) n n, .slice (some ⟨w.heap.size, 0, none⟩) n n] 62)) (w.heap.size + 1 + 1) (w.heap.size + 1) w.heap.size (.new seed n grace) :=
 ⟨by have := at_new2 (w.alloc (.cells (iCells n) 2)) (.cells (iCells n) 3) (.cells #[.int .u64 (q seed), .int .i64 (grace : Int), .slice (some ⟨w.heap.size + 1, 0, none⟩) n n, .slice (some ⟨w.heap.size, 0, none⟩) n n] 62); rwa [size_alloc] at this,
  ⟨_, at_alloc (at_new2 w _ _) _, fun i hi => made_one _ _ _ hi⟩, ⟨_, at_alloc (at_alloc (at_new w _) _) _, fun i hi => made_one _ _ _ hi⟩, by omega, by omega, by omega, rg_new_ok seed h1 h2 h3 h4⟩

set_option maxHeartbeats 1600000 in
theorem fnew_ok (seed : BitVec 64) (n grace : Nat) (h1 : 1 ≤ n) (h2 : n ≤ 16) (h3 : 1 ≤ grace) (h4 : grace ≤ 100) (w : World) :
  Calls Tryz.prog 44 #[.int .u64 (q seed), .int .i64 (n : Int), .int .i64 (grace : Int)] w (MadeF w (.new seed n grace)) := by
 have L1 := hid (made_rf1 seed n grace h1 h2 h3 h4 w)
 have L2 := hid (made_rf2 seed n grace h1 h2 h3 h4 w)
 have d1 : decide ((n : Int) < 1) = false := by simp; omega
 have d2 : decide ((16 : Int) < (n : Int)) = false := by simp; omega
 have d3 : decide ((grace : Int) < 1) = false := by simp; omega
 have d4 : decide ((100 : Int) < (grace : Int)) = false := by simp; omega
 have hm1 := mk_ints n h2
 have hm2 := mk_int64s n h2
 go_enter Tryz.func44, Tryz.ntmps44
 go_wp2_with fail
 go_region
 all_goals
  go_wp2_with fail
  go_ret
  first
  | exact ⟨_, _, _, rfl, ⟨L1.out.top, L1.out.gens, L1.out.sinces, L1.out.bg, L1.out.bs, L1.out.gs, L1.out.ok⟩, gb_drew (gb_alloc (gb_alloc (gb_alloc (.refl w none) _) _) _), by omega, by omega, by omega⟩
  | exact ⟨_, _, _, rfl, ⟨L2.out.top, L2.out.gens, L2.out.sinces, L2.out.bg, L2.out.bs, L2.out.gs, L2.out.ok⟩, gb_drew (gb_alloc (gb_alloc (gb_alloc (.refl w none) _) _) _), by omega, by omega, by omega⟩
end Go.Proofs.YtgpdcapnnejdeaaGreat
end
section
set_option linter.unusedSimpArgs false
set_option linter.unusedVariables false
namespace Go.Proofs.YtgpdcapnnejdeaaGreat
set_option maxRecDepth 100000
open Go.RowKit

set_option maxHeartbeats 1600000 in
theorem ssample_any {b : Nat} {s : Sl} (metric epoch value : Int) (w : World) (H : SlAt 145 w b s) :
  Calls Tryz.prog 31 #[.pointer (some ⟨b, 0, none⟩), .int .i64 metric, .int .i64 epoch, .int .i64 value] w (LeavesS w b (s.out (s.samp metric epoch value)) (s.code (s.samp metric epoch value)) (s.step (s.samp metric epoch value))) := by
 have C : Hid (Calls Tryz.prog 75 #[.pointer (some ⟨b, 0, none⟩), mg (⟨1, 0, s.gen, 0, epoch, value, metric⟩ : Mg)] w (LeavesS w b (s.out (s.samp metric epoch value)) (s.code (s.samp metric epoch value)) (s.step (s.samp metric epoch value)))) := hid (seal_any_s (s.samp metric epoch value) w H)
 have G := hid (sgen_any w H)
 clear H
 generalize s.out (s.samp metric epoch value) = l at C ⊢
 generalize s.code (s.samp metric epoch value) = c at C ⊢
 generalize s.step (s.samp metric epoch value) = s' at C ⊢
 go_enter Tryz.func31, Tryz.ntmps31
 go_wp2_with fail
 refine G.out.mono ?_
 rintro e w1 ⟨rfl, rfl⟩
 go_wp2_with (refine wpList_buildTo (ty := 39) (cs := ((⟨1, 0, s.gen, 0, epoch, value, metric⟩ : Mg)).cells) rfl rfl rfl (by kernel_rfl) ?_)
 refine C.out.mono ?_
 rintro e w1 ⟨v, rfl, ho, hs, hc⟩
 have HS := hid hs; have HC := hid hc; clear hs hc
 have HO := hid ho; clear ho
 go_wp2_with fail
 go_ret2
 exact ⟨v, rfl, HO.out, HS.out, HC.out⟩
set_option maxHeartbeats 1600000 in
theorem srotate_yes {b : Nat} {s : Sl} (epoch : Int) (hm : mayOf (s.msg (s.rota epoch)) = true) (w : World) (H : SlAt 145 w b s) :
  Calls Tryz.prog 32 #[.pointer (some ⟨b, 0, none⟩), .int .i64 epoch] w (LeavesS w b (sealOf s.k.a s.k.b (s.msg (s.rota epoch))) 0 ⟨s.seed, s.who, s.gen + 1, 0⟩) := by
 have C : Hid (Calls Tryz.prog 75 #[.pointer (some ⟨b, 0, none⟩), mg (⟨2, 0, s.gen + 1, 0, epoch, 0, 0⟩ : Mg)] w (LeavesS w b (sealOf s.k.a s.k.b (s.msg (s.rota epoch))) 0 ⟨s.seed, s.who, s.gen, s.seq + 1⟩)) := hid (seal_yes (s.rota epoch) hm w H)
 have g0 := H.ok.g0; have g1 := H.ok.g1; have lt := H.lt
 have s1 : IntKind.i64.wrap (s.gen + 1) = s.gen + 1 := IntWalk.i64_in _ (by omega)
 have G := hid (sgen_any w H)
 have L := hid (show ∀ W v, OwnB w.heap.size W v (sealOf s.k.a s.k.b (s.msg (s.rota epoch))) → SlAt 145 W b ⟨s.seed, s.who, s.gen, s.seq + 1⟩ → Chg [b] w W → LeavesS w b (sealOf s.k.a s.k.b (s.msg (s.rota epoch))) 0 ⟨s.seed, s.who, s.gen + 1, 0⟩ (.returned (.tuple #[v, .int .i64 0])) ((W.setCell ⟨b, 2, none⟩ (.int .i64 (s.gen + 1))).setCell ⟨b, 3, none⟩ (.int .i64 0)) from
  fun W v ho h hc => ⟨v, rfl, ho.chg (((chg_refl W [b]).set (.inl (by simp)) _).set (.inl (by simp)) _) (fun x hx => by rcases List.mem_singleton.1 hx with rfl; exact lt), (⟨by have := at_set (at_set h.top 2 (.int .i64 (s.gen + 1))) 3 (.int .i64 0); exact this, ⟨H.ok.w0, H.ok.w1, by show (0 : Int) ≤ s.gen + 1; omega, (may_of hm).2.2.1.2, Int.le_refl _, by show (0 : Int) ≤ _; decide⟩⟩ : SlAt 145 ((W.setCell ⟨b, 2, none⟩ (.int .i64 (s.gen + 1))).setCell ⟨b, 3, none⟩ (.int .i64 0)) b ⟨s.seed, s.who, s.gen + 1, 0⟩), ((hc.set (.inl (by simp)) _).set (.inl (by simp)) _)⟩)
 clear g0 g1 lt hm H
 generalize (sealOf s.k.a s.k.b (s.msg (s.rota epoch))) = l at C L ⊢
 go_enter Tryz.func32, Tryz.ntmps32
 go_wp2_with fail
 refine G.out.mono ?_
 rintro e w1 ⟨rfl, rfl⟩
 go_wp2_with (refine wpList_buildTo (ty := 39) (cs := ((⟨2, 0, s.gen + 1, 0, epoch, 0, 0⟩ : Mg)).cells) rfl rfl rfl (by kernel_rfl) ?_)
 refine C.out.mono ?_
 rintro e w1 ⟨v, rfl, ho, hs, hc⟩
 obtain ⟨k0, k1, k2, k3, e2, e3⟩ := hs.cells
 have HS := hid hs; have HC := hid hc; clear hs hc
 have HO := hid ho; clear ho
 go_wp2_with fail
 refine (addn_i64 _ s.gen 1 (s.gen + 1) _ k2 e2 s1).mono ?_
 rintro e w2 ⟨rfl, rfl⟩
 have k3' : (w1.setCell ⟨b, 2, none⟩ (.int .i64 (s.gen + 1))).cell? ⟨b, 3, none⟩ = some (.int .i64 (s.seq + 1)) := by go_simp
 have e3' : (w1.setCell ⟨b, 2, none⟩ (.int .i64 (s.gen + 1))).frozen? ⟨b, 3, none⟩ = false := by go_simp
 go_wp2_with fail
 refine (store_i64 _ 0 _ _ k3' e3').mono ?_
 rintro e w2 ⟨rfl, rfl⟩
 go_wp2_with fail
 go_ret2
 exact L.out _ _ HO.out HS.out HC.out
set_option maxHeartbeats 1600000 in
theorem rssample_any {b : Nat} {s : Sl} (metric epoch value : Int) (w : World) (H : SlAt 108 w b s) :
  Calls Tryz.prog 14 #[.pointer (some ⟨b, 0, none⟩), .int .i64 metric, .int .i64 epoch, .int .i64 value] w (LeavesR w b (s.out (s.samp metric epoch value)) (s.code (s.samp metric epoch value)) (s.step (s.samp metric epoch value))) := by
 have C : Hid (Calls Tryz.prog 47 #[.pointer (some ⟨b, 0, none⟩), mg (⟨1, 0, s.gen, 0, epoch, value, metric⟩ : Mg)] w (LeavesR w b (s.out (s.samp metric epoch value)) (s.code (s.samp metric epoch value)) (s.step (s.samp metric epoch value)))) := hid (rnext_any (s.samp metric epoch value) w H)
 obtain ⟨c0, c1, c2, c3, f2, f3⟩ := H.cells
 clear H
 generalize s.out (s.samp metric epoch value) = l at C ⊢
 generalize s.code (s.samp metric epoch value) = c at C ⊢
 generalize s.step (s.samp metric epoch value) = s' at C ⊢
 go_enter Tryz.func14, Tryz.ntmps14
 go_wp2_with (refine wpList_buildTo (ty := 39) (cs := ((⟨1, 0, s.gen, 0, epoch, value, metric⟩ : Mg)).cells) rfl rfl rfl (by kernel_rfl) ?_)
 refine C.out.mono ?_
 rintro e w1 ⟨rfl, hs, hc⟩
 have HS := hid hs; have HC := hid hc; clear hs hc
 go_wp2_with fail
 go_ret2
 exact ⟨rfl, HS.out, HC.out⟩
set_option maxHeartbeats 1600000 in
theorem rsrotate_yes {b : Nat} {s : Sl} (epoch : Int) (hm : mayOf (s.msg (s.rota epoch)) = true) (w : World) (H : SlAt 108 w b s) :
  Calls Tryz.prog 15 #[.pointer (some ⟨b, 0, none⟩), .int .i64 epoch] w (LeavesR w b (sealOf s.k.a s.k.b (s.msg (s.rota epoch))) 0 ⟨s.seed, s.who, s.gen + 1, 0⟩) := by
 have C : Hid (Calls Tryz.prog 47 #[.pointer (some ⟨b, 0, none⟩), mg (⟨2, 0, s.gen + 1, 0, epoch, 0, 0⟩ : Mg)] w (LeavesR w b (sealOf s.k.a s.k.b (s.msg (s.rota epoch))) 0 ⟨s.seed, s.who, s.gen, s.seq + 1⟩)) := hid (rnext_yes (s.rota epoch) hm w H)
 have g0 := H.ok.g0; have g1 := H.ok.g1; have lt := H.lt
 have s1 : IntKind.i64.wrap (s.gen + 1) = s.gen + 1 := IntWalk.i64_in _ (by omega)
 obtain ⟨c0, c1, c2, c3, f2, f3⟩ := H.cells
 have L := hid (show ∀ W, SlAt 108 W b ⟨s.seed, s.who, s.gen, s.seq + 1⟩ → Chg [b] w W → LeavesR w b (sealOf s.k.a s.k.b (s.msg (s.rota epoch))) 0 ⟨s.seed, s.who, s.gen + 1, 0⟩ (.returned (.tuple #[.string ⟨((sealOf s.k.a s.k.b (s.msg (s.rota epoch)))).toArray⟩, .int .i64 0])) ((W.setCell ⟨b, 2, none⟩ (.int .i64 (s.gen + 1))).setCell ⟨b, 3, none⟩ (.int .i64 0)) from
  fun W h hc => ⟨rfl, (⟨by have := at_set (at_set h.top 2 (.int .i64 (s.gen + 1))) 3 (.int .i64 0); exact this, ⟨H.ok.w0, H.ok.w1, by show (0 : Int) ≤ s.gen + 1; omega, (may_of hm).2.2.1.2, Int.le_refl _, by show (0 : Int) ≤ _; decide⟩⟩ : SlAt 108 ((W.setCell ⟨b, 2, none⟩ (.int .i64 (s.gen + 1))).setCell ⟨b, 3, none⟩ (.int .i64 0)) b ⟨s.seed, s.who, s.gen + 1, 0⟩), ((hc.set (.inl (by simp)) _).set (.inl (by simp)) _)⟩)
 clear g0 g1 lt hm H
 generalize (sealOf s.k.a s.k.b (s.msg (s.rota epoch))) = l at C L ⊢
 go_enter Tryz.func15, Tryz.ntmps15
 go_wp2_with (refine wpList_buildTo (ty := 39) (cs := ((⟨2, 0, s.gen + 1, 0, epoch, 0, 0⟩ : Mg)).cells) rfl rfl rfl (by kernel_rfl) ?_)
 refine C.out.mono ?_
 rintro e w1 ⟨rfl, hs, hc⟩
 obtain ⟨k0, k1, k2, k3, e2, e3⟩ := hs.cells
 have HS := hid hs; have HC := hid hc; clear hs hc
 go_wp2_with fail
 go_ret2
 exact L.out _ HS.out HC.out
set_option maxHeartbeats 1600000 in
theorem rsrotate_no {b : Nat} {s : Sl} (epoch : Int) (hm : mayOf (s.msg (s.rota epoch)) = false) (w : World) (H : SlAt 108 w b s) :
  Calls Tryz.prog 15 #[.pointer (some ⟨b, 0, none⟩), .int .i64 epoch] w (LeavesR w b [] 1 s) := by
 have C : Hid (Calls Tryz.prog 47 #[.pointer (some ⟨b, 0, none⟩), mg (⟨2, 0, s.gen + 1, 0, epoch, 0, 0⟩ : Mg)] w (LeavesR w b [] 1 s)) := hid (rnext_no (s.rota epoch) hm w H)
 have g0 := H.ok.g0; have g1 := H.ok.g1; have lt := H.lt
 have s1 : IntKind.i64.wrap (s.gen + 1) = s.gen + 1 := IntWalk.i64_in _ (by omega)
 obtain ⟨c0, c1, c2, c3, f2, f3⟩ := H.cells
 clear g0 g1 lt hm H
 go_enter Tryz.func15, Tryz.ntmps15
 go_wp2_with (refine wpList_buildTo (ty := 39) (cs := ((⟨2, 0, s.gen + 1, 0, epoch, 0, 0⟩ : Mg)).cells) rfl rfl rfl (by kernel_rfl) ?_)
 refine C.out.mono ?_
 rintro e w1 ⟨rfl, hs, hc⟩
 obtain ⟨k0, k1, k2, k3, e2, e3⟩ := hs.cells
 have HS := hid hs; have HC := hid hc; clear hs hc
 go_wp2_with fail
 go_ret2
 exact ⟨rfl, HS.out, HC.out⟩
theorem rsrotate_any {b : Nat} {s : Sl} (epoch : Int) (w : World) (H : SlAt 108 w b s) :
  Calls Tryz.prog 15 #[.pointer (some ⟨b, 0, none⟩), .int .i64 epoch] w (LeavesR w b (s.out (s.rota epoch)) (s.code (s.rota epoch)) (s.turn epoch)) := by
 unfold Sl.out Sl.code Sl.turn putC sealB
 cases h : mayOf (s.msg (s.rota epoch))
 ·exact rsrotate_no epoch h w H
 ·exact rsrotate_yes epoch h w H
theorem ssample_yes {b : Nat} {s : Sl} (metric epoch value : Int) (hm : mayOf (s.msg (s.samp metric epoch value)) = true) (w : World) (H : SlAt 145 w b s) :
  Calls Tryz.prog 31 #[.pointer (some ⟨b, 0, none⟩), .int .i64 metric, .int .i64 epoch, .int .i64 value] w (LeavesS w b (sealOf s.k.a s.k.b (s.msg (s.samp metric epoch value))) 0 ⟨s.seed, s.who, s.gen, s.seq + 1⟩) := by
 have h := ssample_any metric epoch value w H
 unfold Sl.out Sl.code Sl.step putC sealB at h
 rw [hm] at h
 exact h
end Go.Proofs.YtgpdcapnnejdeaaGreat
end
