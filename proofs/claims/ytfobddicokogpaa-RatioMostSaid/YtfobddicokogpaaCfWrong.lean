/-
  Contract: the first part that may not be, as the program finds it. No condition.
-/
import Derived.Test.YtfobddicokogpaaCfAsk
import Derived.Test.YtfobddicokogpaaCfTgt
import Derived.Deep.MidRow
set_option linter.unusedSimpArgs false
namespace Go.Proofs.Ytfobddicokogpaa
set_option maxRecDepth 100000
open Go.RowKit

/-- the names, and whether each part may be, as the program reckons it -/
def st1 (c : Conf) : Option ByteArray := ask1 none ⟨#[110]⟩ (cwithin c.n 1 16)
def st2 (c : Conf) : Option ByteArray := ask1 (st1 c) ⟨#[102]⟩ (cwithin c.f 0 (wrap64 ((wrap64 (c.n - 1)).tdiv 3)))
def st3 (c : Conf) : Option ByteArray := ask1 (st2 c) ⟨#[109]⟩ (cwithin c.m 1 4)
def st4 (c : Conf) : Option ByteArray := ask1 (st3 c) ⟨#[113, 117, 111, 114, 117, 109]⟩ (cwithin c.quorum (wrap64 (wrap64 (2 * c.f) + 1)) c.n)
def st5 (c : Conf) : Option ByteArray := ask1 (st4 c) ⟨#[102, 114, 101, 115, 104]⟩ (cwithin c.fresh 1 8)
def st6 (c : Conf) : Option ByteArray := ask1 (st5 c) ⟨#[103, 114, 97, 99, 101]⟩ (cwithin c.grace 1 100)
def st7 (c : Conf) : Option ByteArray := ask1 (st6 c) ⟨#[119, 105, 110, 100, 111, 119]⟩ (cwithin c.window 1 64)
def st8 (c : Conf) : Option ByteArray := ask1 (st7 c) ⟨#[116, 97, 114, 103, 101, 116]⟩ (tgts c.m c.t0 c.t1 c.t2 c.t3)
def st9 (c : Conf) : Option ByteArray := ask1 (st8 c) ⟨#[116, 111, 108]⟩ (cwithin c.tol 0 1000)
def st10 (c : Conf) : Option ByteArray := ask1 (st9 c) ⟨#[109, 105, 110]⟩ (cwithin c.min 1 10000)
def st11 (c : Conf) : Option ByteArray := ask1 (st10 c) ⟨#[109, 97, 120]⟩ (cwithin c.max c.min 10000)
def st12 (c : Conf) : Option ByteArray := ask1 (st11 c) ⟨#[99, 97, 108, 109, 117, 112]⟩ (cwithin c.calmup 0 60)
def st13 (c : Conf) : Option ByteArray := ask1 (st12 c) ⟨#[99, 97, 108, 109, 100, 111, 119, 110]⟩ (cwithin c.calmdown 0 60)
def st14 (c : Conf) : Option ByteArray := ask1 (st13 c) ⟨#[112, 111, 100, 115, 117, 112]⟩ (cwithin c.podsup 1 1000)
def st15 (c : Conf) : Option ByteArray := ask1 (st14 c) ⟨#[112, 99, 116, 117, 112]⟩ (cwithin c.pctup 1 1000)
def st16 (c : Conf) : Option ByteArray := ask1 (st15 c) ⟨#[112, 111, 100, 115, 100, 111, 119, 110]⟩ (cwithin c.podsdown 1 1000)
def st17 (c : Conf) : Option ByteArray := ask1 (st16 c) ⟨#[112, 99, 116, 100, 111, 119, 110]⟩ (cwithin c.pctdown 1 100)
def st18 (c : Conf) : Option ByteArray := ask1 (st17 c) ⟨#[112, 101, 114, 105, 111, 100]⟩ (cwithin c.period 1 60)
def st19 (c : Conf) : Option ByteArray := ask1 (st18 c) ⟨#[102, 97, 114]⟩ (cwithin c.far 0 1099511627776)
def st20 (c : Conf) : Option ByteArray := ask1 (st19 c) ⟨#[115, 116, 114, 105, 107, 101, 115]⟩ (cwithin c.strikes 1 100)
def st21 (c : Conf) : Option ByteArray := ask1 (st20 c) ⟨#[112, 114, 111, 98, 101]⟩ (cwithin c.probe 1 100)
def st22 (c : Conf) : Option ByteArray := ask1 (st21 c) ⟨#[115, 101, 99, 116, 111, 114, 115]⟩ (cwithin c.sectors 64 4096)

theorem size_new (w : World) (o : Obj) : (w.alloc o).heap.size = w.heap.size + 1 := by
  show (w.heap.push o).size = _
  simp
end Go.Proofs.Ytfobddicokogpaa
