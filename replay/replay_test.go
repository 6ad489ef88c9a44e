package replay

import (
	"math"
	"math/big"
	"math/bits"
	"math/rand/v2"
	"sync"
	"testing"

	"quorumite/api"
)

const (
	last = 1 << 40
	ones = math.MaxUint64
)

// ends are numbers at the ends of their kind, and where a smaller kind would wrap round to what may be.
func ends() []int64 {
	return []int64{math.MinInt64, math.MinInt64 + 1, math.MinInt64 + 64, -1 << 62, -1<<40 - 1, -1 << 40, -1 << 32, -1<<32 + 5, -256, -65, -64, -2, -1, 1<<40 + 1, 1<<40 + 2, 1 << 41, 1<<48 + 5, 1 << 62, 1<<62 + 1, math.MaxInt64 - 64, math.MaxInt64 - 1, math.MaxInt64}
}

// tops are what Top may be: low ones, of which some numbers within a window would be below 1, and those at the ends.
func tops() []int64 {
	l := []int64{100, 127, 128, 129, 1000, 1<<31 - 1, 1 << 31, 1<<32 - 1, 1 << 32, 1<<32 + 1, 1 << 39, last - 65, last - 1, last}
	for n := range int64(70) {
		l = append(l, n)
	}
	return l
}

// made is a Replay of a window of which it is known that it may be.
func made(t *testing.T, window int) *Replay {
	t.Helper()
	r := New(window)
	if r == nil {
		t.Fatalf("New of a window of %d is nil", window)
	}
	return r
}

// takes takes each of the numbers, which must go.
func takes(t *testing.T, r *Replay, seqs ...int64) {
	t.Helper()
	for _, seq := range seqs {
		if !r.May(seq) {
			t.Fatalf("%d may not be taken at %d, %b", seq, r.Top(), r.Bits())
		}
		if code := r.Take(seq); code != api.OK {
			t.Fatalf("Take(%d) is %d at %d, %b", seq, code, r.Top(), r.Bits())
		}
	}
}

// refuses asks that none of the numbers is taken, and that nothing changes by it.
func refuses(t *testing.T, r *Replay, seqs ...int64) {
	t.Helper()
	top, b := r.Top(), r.Bits()
	for _, seq := range seqs {
		if r.May(seq) {
			t.Errorf("%d may be taken at %d, %b", seq, top, b)
		}
		if code := r.Take(seq); code != api.ErrReplay {
			t.Errorf("Take(%d) is %d at %d, %b", seq, code, top, b)
		}
	}
	stands(t, r, top, b)
}

// stands holds Top and Bits against what is asked for.
func stands(t *testing.T, r *Replay, top int64, b uint64) {
	t.Helper()
	if r.Top() != top || r.Bits() != b {
		t.Errorf("it stands at %d, %b, not at %d, %b", r.Top(), r.Bits(), top, b)
	}
}

// sets sets r, which must go.
func sets(t *testing.T, r *Replay, top int64, b uint64) {
	t.Helper()
	if code := r.Set(top, b); code != api.OK {
		t.Fatalf("Set(%d, %b) is %d", top, b, code)
	}
	stands(t, r, top, b)
}

// within is how many numbers there are from top downwards that are above top less window and not below 1.
func within(top int64, window int) int {
	n := 0
	for n < window && top-int64(n) >= 1 {
		n++
	}
	return n
}

// full is n bits, put one by one.
func full(n int) uint64 {
	var b uint64
	for i := range n {
		b += uint64(math.Ldexp(1, i))
	}
	return b
}

func TestNewAtTheEdges(t *testing.T) { // 6.1
	for _, window := range append(ends(), 0, 65, 66, 127, 128, 129, 256, 257, 1<<32+1, 1<<32+64) {
		if r := New(int(window)); r != nil {
			t.Errorf("New of a window of %d is not nil", window)
		}
	}
	for window := 1; window <= 64; window++ {
		made(t, window)
	}
}

func TestNewBegins(t *testing.T) { // 6.1: nothing was taken, so all numbers may be, and nothing else
	for window := 1; window <= 64; window++ {
		r := made(t, window)
		stands(t, r, 0, 0)
		refuses(t, r, append(ends(), 0)...)
		for _, seq := range tops() {
			if seq == 0 {
				continue
			}
			takes(t, r, seq)
			stands(t, r, seq, 1)
			r = made(t, window)
		}
	}
}

func TestExample(t *testing.T) { // the chapter's, and the document's third
	r := made(t, 32)
	for i, seq := range []int64{5, 3, 5} {
		want := []int{api.OK, api.OK, api.ErrReplay}[i]
		if code := r.Take(seq); code != want {
			t.Errorf("Take(%d) is %d", seq, code)
		}
	}
	stands(t, r, 5, 0b101)
}

func TestMayAtTheEdgesOfEachWindow(t *testing.T) { // 6.1: above Top less window, from 1 to MaxSeq, not Top
	for window := 1; window <= 64; window++ {
		for _, top := range tops() {
			if top == 0 {
				continue
			}
			for below := int64(-70); below < 140; below++ {
				r := made(t, window)
				takes(t, r, top)
				seq := top - below
				if seq >= 1 && seq <= last && (below < 0 || below > 0 && below < int64(window)) {
					takes(t, r, seq)
					refuses(t, r, seq)
					continue
				}
				refuses(t, r, seq)
			}
		}
	}
}

func TestTakeWithinTheWindow(t *testing.T) { // 6.1, 6.2: each number by its own bit, and the Top stays
	for window := 1; window <= 64; window++ {
		for _, top := range tops() {
			r := made(t, window)
			if top > 0 {
				takes(t, r, top)
			}
			for i := 1; i < within(top, window); i++ {
				takes(t, r, top-int64(i))
				stands(t, r, top, full(i+1))
				refuses(t, r, top, top-int64(i))
			}
			refuses(t, r, top, top-int64(window), top-64, top-65, 0, -1)
		}
	}
}

func TestTakeOneWithinTheWindow(t *testing.T) { // 6.1, 6.2: no other one's bit
	for window := 1; window <= 64; window++ {
		for _, top := range tops() {
			for i := 1; i < within(top, window); i++ {
				r := made(t, window)
				takes(t, r, top, top-int64(i))
				if r.Top() != top || bits.OnesCount64(r.Bits()) != 2 || r.Bits()&1 != 1 || bits.Len64(r.Bits()) != i+1 {
					t.Errorf("of a window of %d: %d, %d was taken, and it stands at %d, %b", window, top, top-int64(i), r.Top(), r.Bits())
				}
			}
		}
	}
}

func TestTakeAhead(t *testing.T) { // 6.1, 6.2: the bits go up with their numbers, and out beyond the window
	for window := 1; window <= 64; window++ {
		for _, b := range []uint64{ones, 1, 1<<63 | 1, 0x5555555555555555, 0x8000000080000001} {
			b &= full(window)
			for _, ahead := range []int64{1, 2, 3, 31, 32, 33, 62, 63, 64, 65, 66, 127, 128, 129, 255, 256, 257, 1 << 16, 1 << 32, 1<<32 + 1, 1<<32 + 63, last - 100} {
				r := made(t, window)
				sets(t, r, 100, b)
				takes(t, r, 100+ahead)
				var want uint64 = 1
				for i := range window {
					if b>>i&1 == 1 && int64(i)+ahead < int64(window) {
						want |= 1 << (int64(i) + ahead)
					}
				}
				stands(t, r, 100+ahead, want)
			}
		}
	}
}

func TestTakeAtTheLast(t *testing.T) { // 6.1: MaxSeq may be, none above it
	for window := 1; window <= 64; window++ {
		r := made(t, window)
		takes(t, r, last)
		stands(t, r, last, 1)
		refuses(t, r, append(ends(), last, last-int64(window), last-64, 0, 1)...)
		for i := window - 1; i > 0; i-- {
			takes(t, r, last-int64(i))
		}
		stands(t, r, last, full(window))
	}
}

func TestUpOneByOne(t *testing.T) { // 6.1, 6.2: in their order each number goes, once
	for _, window := range []int{1, 2, 3, 31, 32, 33, 63, 64} {
		r := made(t, window)
		for seq := int64(1); seq <= 300; seq++ {
			takes(t, r, seq)
			stands(t, r, seq, full(within(seq, window)))
			refuses(t, r, seq, seq-1, seq-int64(window), 1, 0)
		}
	}
}

func TestBitsOfNumbersBelowOne(t *testing.T) { // 6.2: those have none, however wide the window
	for window := 1; window <= 64; window++ {
		for top := int64(1); top <= 64; top++ {
			r := made(t, window)
			takes(t, r, top)
			refuses(t, r, 0, -1, top-64)
			for seq := top - 1; seq >= 1; seq-- {
				r.Take(seq)
			}
			stands(t, r, top, full(within(top, window)))
		}
	}
}

func TestSet(t *testing.T) { // 6.2: forth and back, with no regard to what was, and what it was set to is what was taken
	r := made(t, 64)
	for _, x := range []struct {
		top  int64
		bits uint64
	}{{5, 0b10101}, {last, ones}, {0, 0}, {64, ones}, {63, ones >> 1}, {1, 1}, {last, 1}, {last, 1<<63 | 1}, {last - 1, ones}, {0, 0}, {2, 1}, {2, 3}, {2, 3}} {
		sets(t, r, x.top, x.bits)
		for i := range int64(64) {
			seq := x.top - i
			if may := seq >= 1 && x.bits>>i&1 == 0; r.May(seq) != may {
				t.Errorf("May(%d) is %v after Set(%d, %b)", seq, !may, x.top, x.bits)
			}
		}
		refuses(t, r, x.top-64, x.top-65, 0, last+1)
		if x.top < last && !r.May(x.top+1) {
			t.Errorf("the next one may not be taken after Set(%d, %b)", x.top, x.bits)
		}
	}
	takes(t, r, 4) // and it goes on from there
	stands(t, r, 4, 0b1101)
}

func TestSetAtTheEdges(t *testing.T) { // 6.2: each bit by itself, of each window, at each Top
	for window := 1; window <= 64; window++ {
		for _, top := range tops() {
			for i := range 64 {
				with := uint64(1)<<i | 1
				if top == 0 {
					with = 1 << i
				}
				may := top > 0 && i < within(top, window)
				settles(t, window, top, with, may)
				settles(t, window, top, with&^1, top == 0 && i == 0) // the lowest just if top is above 0
			}
			settles(t, window, top, 0, top == 0)
			settles(t, window, top, ones, top >= 64 && window == 64)
			settles(t, window, top, ones-1, false)
			settles(t, window, top, full(within(top, window)), true)
			settles(t, window, top, full(within(top, window))<<1|1, within(top, window) == 64)
		}
	}
}

func TestSetAtTheEndsOf64Bits(t *testing.T) { // 6.2
	for window := 1; window <= 64; window++ {
		for _, top := range ends() {
			for _, b := range []uint64{0, 1, 2, 3, 1 << 62, 1 << 63, 1<<63 | 1, 1<<63 - 1, ones - 1, ones, full(window)} {
				settles(t, window, top, b, false)
			}
		}
	}
}

// settles holds Set, of a Replay that stood elsewhere, against whether it may be: else nothing changes.
func settles(t *testing.T, window int, top int64, b uint64, may bool) {
	t.Helper()
	r := made(t, window)
	takes(t, r, 77)
	switch code := r.Set(top, b); {
	case may && code == api.OK:
		stands(t, r, top, b)
	case !may && code == api.ErrArg:
		stands(t, r, 77, 1)
	default:
		t.Errorf("of a window of %d: Set(%d, %b) is %d", window, top, b, code)
	}
}

func TestSetTakesWhatItTold(t *testing.T) { // 6.2: one that is set to where another stands goes on as that one does
	dice := rand.New(rand.NewPCG(6, 2))
	for window := 1; window <= 64; window++ {
		a, b := made(t, window), made(t, window)
		for range 500 {
			a.Take(a.Top() + dice.Int64N(150) - 100)
			if dice.IntN(10) == 0 {
				sets(t, b, a.Top(), a.Bits())
				continue
			}
			seq := a.Top() + dice.Int64N(150) - 100
			sets(t, b, a.Top(), a.Bits())
			if one, two := a.Take(seq), b.Take(seq); one != two {
				t.Fatalf("of a window of %d: Take(%d) is %d of the one and %d of the other", window, seq, one, two)
			}
			stands(t, b, a.Top(), a.Bits())
		}
	}
}

func TestOfNil(t *testing.T) { // 6.2: with any arguments
	var r *Replay
	for _, seq := range append(ends(), tops()...) {
		if r.May(seq) {
			t.Errorf("May(%d) of nil", seq)
		}
		if code := r.Take(seq); code != api.ErrArg {
			t.Errorf("Take(%d) of nil is %d", seq, code)
		}
		for _, b := range []uint64{0, 1, 3, 1 << 63, ones} {
			if code := r.Set(seq, b); code != api.ErrArg {
				t.Errorf("Set(%d, %b) of nil is %d", seq, b, code)
			}
		}
	}
	stands(t, r, 0, 0)
}

func TestOfOneThatNewDidNotMake(t *testing.T) { // it tells no number apart: each is taken but above all of them
	var r Replay
	stands(t, &r, 0, 0)
	refuses(t, &r, append(ends(), 0)...)
	for _, seq := range []int64{1, 3, 100, last} {
		takes(t, &r, seq)
		refuses(t, &r, seq, seq-1, seq-64, 1, 0)
		if r.Top() != seq {
			t.Errorf("Top is %d, not %d", r.Top(), seq)
		}
	}
	if code := r.Set(5, 1); code != api.ErrArg {
		t.Errorf("Set is %d", code)
	}
}

func TestWhatIsTooOldIsNeverTaken(t *testing.T) { // 6.3: whether it was taken or not, and however far the Top goes
	for window := 1; window <= 64; window++ {
		r := made(t, window)
		for top := int64(3); top < 400; top += 1 + top%7 { // so that many are left out
			takes(t, r, top)
			for seq := int64(0); seq <= top-int64(window); seq++ {
				refuses(t, r, seq)
			}
		}
		for _, top := range []int64{1000, 1 << 32, last - 64, last - 1, last} {
			takes(t, r, top)
			for seq := range int64(400) {
				refuses(t, r, seq)
			}
			refuses(t, r, top-int64(window), top-int64(window)-1, top-64, top-128)
		}
	}
}

func TestWhatWasTakenIsNeverTakenAgain(t *testing.T) { // 6.3, T3: each of a range's numbers once, in whatever order they come, and come again
	dice := rand.New(rand.NewPCG(6, 3))
	for window := 1; window <= 64; window++ {
		r := made(t, window)
		times := make([]int, 500)
		for range 20000 {
			seq := min(499, r.Top()+5) - dice.Int64N(90)
			if code := r.Take(seq); code == api.OK {
				times[seq]++
			}
		}
		for seq, n := range times {
			if n > 1 || seq == 0 && n > 0 {
				t.Errorf("of a window of %d: %d was taken %d times", window, seq, n)
			}
		}
		for seq, n := range times {
			if n == 1 {
				refuses(t, r, int64(seq))
			}
		}
	}
}

func TestWhatComesTwiceGoesOnce(t *testing.T) { // 6.3, T3: within the window none is lost, be it turned about and copied
	dice := rand.New(rand.NewPCG(6, 4))
	for window := 1; window <= 64; window++ {
		r := made(t, window)
		for first := int64(1); first < 1000; first += int64(window) {
			block := dice.Perm(window)
			for _, i := range block {
				takes(t, r, first+int64(i))
				refuses(t, r, first+int64(i))
			}
			for _, i := range block {
				refuses(t, r, first+int64(i))
			}
		}
	}
}

func TestEachForItself(t *testing.T) { // 6.1: what one took is none of another's
	a, b := made(t, 8), made(t, 8)
	takes(t, a, 5, 3)
	stands(t, b, 0, 0)
	takes(t, b, 3, 5, 4)
	stands(t, a, 5, 0b101)
	sets(t, b, 9, 1)
	stands(t, a, 5, 0b101)
}

func TestAskingChangesNothing(t *testing.T) { // 6.1, 6.2
	r := made(t, 8)
	takes(t, r, 20, 15)
	for _, seq := range append(ends(), tops()...) {
		if one, two := r.May(seq), r.May(seq); one != two {
			t.Errorf("May(%d) is %v and then %v", seq, one, two)
		}
		stands(t, r, 20, 0b100001)
	}
}

// tale is a second telling of a Replay: all numbers that ever were taken, and whole numbers of any length.
type tale struct {
	window int64
	top    int64
	taken  map[int64]bool
}

// may is May.
func (a *tale) may(seq int64) bool {
	edge := new(big.Int).Sub(big.NewInt(a.top), big.NewInt(a.window))
	return seq >= 1 && seq <= last && big.NewInt(seq).Cmp(edge) > 0 && !a.taken[seq]
}

// take is Take.
func (a *tale) take(seq int64) int {
	if !a.may(seq) {
		return api.ErrReplay
	}
	a.taken[seq] = true
	a.top = max(a.top, seq)
	return api.OK
}

// bits is Bits.
func (a *tale) bits() uint64 {
	n := new(big.Int)
	for i := range a.window {
		if a.taken[a.top-i] {
			n.SetBit(n, int(i), 1)
		}
	}
	return n.Uint64()
}

// set is Set: what was taken ahead of it is forgotten.
func (a *tale) set(top int64, b uint64) int {
	if top < 0 || top > last || (b%2 == 1) != (top > 0) {
		return api.ErrArg
	}
	taken := map[int64]bool{}
	for i := range int64(64) {
		if b>>i%2 == 0 {
			continue
		}
		if i >= a.window || top-i < 1 {
			return api.ErrArg
		}
		taken[top-i] = true
	}
	a.top, a.taken = top, taken
	return api.OK
}

// near is a number at an end of its kind, or near to one of those that are handed in.
func near(dice *rand.Rand, about ...int64) int64 {
	if dice.IntN(20) == 0 {
		l := ends()
		return l[dice.IntN(len(l))]
	}
	return about[dice.IntN(len(about))] + dice.Int64N(9) - 4
}

// some are bits that may be, or nearly.
func some(dice *rand.Rand, top, window int64) uint64 {
	b := dice.Uint64() & full(within(top, int(window)))
	if top > 0 {
		b |= 1
	}
	if dice.IntN(3) == 0 {
		b ^= 1 << dice.IntN(64)
	}
	return b
}

func TestAsToldASecondTime(t *testing.T) { // 6.1, 6.2, 6.3: whatever is called, in whatever order, at each window
	dice := rand.New(rand.NewPCG(6, 6))
	for round := range 64 * 12 {
		window := int64(1 + round%64)
		r := made(t, int(window))
		a := &tale{window: window, taken: map[int64]bool{}}
		for range 300 {
			top := a.top
			seq := near(dice, top, top, top+window, top-window, top-dice.Int64N(70), top+dice.Int64N(70))
			if dice.IntN(40) == 0 {
				seq = 1 + dice.Int64N(last)
			}
			if dice.IntN(30) == 0 {
				at := near(dice, 0, 1, 40, 64, top, last)
				b := some(dice, at, window)
				if got, want := r.Set(at, b), a.set(at, b); got != want {
					t.Fatalf("of a window of %d: Set(%d, %b) is %d, not %d", window, at, b, got, want)
				}
			} else {
				if got, want := r.May(seq), a.may(seq); got != want {
					t.Fatalf("of a window of %d: May(%d) at %d is %v", window, seq, top, got)
				}
				if got, want := r.Take(seq), a.take(seq); got != want {
					t.Fatalf("of a window of %d: Take(%d) at %d is %d, not %d", window, seq, top, got, want)
				}
			}
			if r.Top() != a.top || r.Bits() != a.bits() {
				t.Fatalf("of a window of %d: it stands at %d, %b, not at %d, %b", window, r.Top(), r.Bits(), a.top, a.bits())
			}
		}
	}
}

func TestTheSameEachTime(t *testing.T) { // 6.1: what others do at one time, on Replays of their own, changes no answer
	var all sync.WaitGroup
	for range 16 {
		all.Go(func() {
			r := New(64)
			for seq := int64(2); seq <= 999; seq++ {
				if code := r.Take(seq ^ 1); code != api.OK { // 3, 2, 5, 4 ..
					t.Errorf("Take(%d) is %d", seq^1, code)
				}
			}
			r.Take(1062)
			if r.Top() != 1062 || r.Bits() != 1<<63|1 {
				t.Errorf("it stands at %d, %b", r.Top(), r.Bits())
			}
		})
	}
	all.Wait()
}
