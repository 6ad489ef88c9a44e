package table

import (
	"math"
	"math/big"
	"math/rand/v2"
	"slices"
	"sync"
	"testing"

	"quorumite/api"
)

const (
	most     = 1 << 40
	least    = math.MinInt64
	greatest = math.MaxInt64
)

// wild are numbers that nothing may be but an epoch or a now: next to 0, at the ends of 64 bits, and where a smaller kind would take them for others.
func wild() []int64 {
	return []int64{-1, -2, -3, -8, -16, -255, -256, -1 << 31, -1 << 32, -1<<32 + 1, -1 << 40, -1<<40 - 1, -1 << 62, least + 1, least, most + 1, most + 2, 2 * most, most + 1<<32, 1<<48 + 3, 1 << 62, 1<<62 + 1, greatest - 1, greatest}
}

// large are numbers that are no collector, metric or fresh, where a smaller kind would take some of them for one.
func large() []int64 {
	return []int64{17, 18, 127, 128, 255, 256, 257, 258, 1<<16 + 1, 1<<31 - 1, 1 << 31, 1 << 32, 1<<32 + 1, 1<<32 + 3, most - 1, most}
}

// nows are epochs and nows of each sort: low ones, those below 0, around the limit of epochs, which a Table doesn't ask, and at the ends of 64 bits.
func nows() []int64 {
	return []int64{least, least + 1, least + 7, least + 8, -1 << 62, -1<<32 - 1, -9, -8, -7, -2, -1, 0, 1, 2, 5, 7, 8, 100, 1<<31 - 1, 1 << 31, 1<<32 - 1, 1 << 32, most - 8, most - 1, most, most + 1, 1 << 62, greatest - 9, greatest - 8, greatest - 7, greatest - 2, greatest - 1, greatest}
}

// made is a Table of numbers of which it is known that they may be.
func made(t *testing.T, n, m, fresh int) *Table {
	t.Helper()
	w := New(n, m, fresh)
	if w == nil {
		t.Fatalf("New(%d, %d, %d) is nil", n, m, fresh)
	}
	return w
}

// at is the sample of a place, with a value that no other place near it has.
func at(epoch int64, metric, who int) api.Sample {
	return api.Sample{Who: who, Metric: metric, Epoch: epoch, Value: (epoch&0xffff)*1000 + int64(metric)*100 + int64(who)}
}

// puts puts each of the samples at its own epoch, which must go.
func puts(t *testing.T, w *Table, l ...api.Sample) {
	t.Helper()
	for _, s := range l {
		putsAt(t, w, s, s.Epoch)
	}
}

// putsAt puts s at now, which must go: s is there behind it, and nothing else than was there.
func putsAt(t *testing.T, w *Table, s api.Sample, now int64) {
	t.Helper()
	was := w.All()
	if code := w.May(s, now); code != api.OK {
		t.Fatalf("May(%v, %d) is %d", s, now, code)
	}
	stands(t, w, was)
	if code := w.Put(s, now); code != api.OK {
		t.Fatalf("Put(%v, %d) is %d", s, now, code)
	}
	stands(t, w, ordered(append(was, s)))
}

// refuses asks that s is refused by the code at now, and that nothing changes by it.
func refuses(t *testing.T, w *Table, s api.Sample, now int64, code int) {
	t.Helper()
	was := w.All()
	if got := w.May(s, now); got != code {
		t.Errorf("May(%v, %d) is %d, not %d", s, now, got, code)
	}
	if got := w.Put(s, now); got != code {
		t.Errorf("Put(%v, %d) is %d, not %d", s, now, got, code)
	}
	stands(t, w, was)
}

// stands holds All against what is asked for.
func stands(t *testing.T, w *Table, l []api.Sample) {
	t.Helper()
	if all := w.All(); !slices.Equal(all, l) {
		t.Fatalf("All is %v, not %v", all, l)
	}
}

// tells holds Of against what is asked for.
func tells(t *testing.T, w *Table, epoch int64, metric int, l ...api.Sample) {
	t.Helper()
	if of := w.Of(epoch, metric); !slices.Equal(of, l) {
		t.Errorf("Of(%d, %d) is %v, not %v", epoch, metric, of, l)
	}
}

// drops asks that Drop takes as many away, and what is left.
func drops(t *testing.T, w *Table, epoch int64, n int, left ...api.Sample) {
	t.Helper()
	if got := w.Drop(epoch); got != n {
		t.Errorf("Drop(%d) is %d, not %d", epoch, got, n)
	}
	stands(t, w, left)
}

// ahead is whether a stands ahead of b in All.
func ahead(a, b api.Sample) bool {
	if a.Epoch != b.Epoch {
		return a.Epoch < b.Epoch
	}
	if a.Metric != b.Metric {
		return a.Metric < b.Metric
	}
	return a.Who < b.Who
}

// ordered is a second telling of the order: each sample is put ahead of the first that it stands ahead of.
func ordered(l []api.Sample) []api.Sample {
	var by []api.Sample
	for _, s := range l {
		i := 0
		for i < len(by) && !ahead(s, by[i]) {
			i++
		}
		by = slices.Insert(by, i, s)
	}
	return by
}

// full is a sample of each place of n collectors, m metrics and so many epochs from now on, in All's order.
func full(n, m, epochs int, now int64) []api.Sample {
	var l []api.Sample
	for e := range int64(epochs) {
		for metric := range m {
			for who := range n {
				l = append(l, at(now+e, metric, who))
			}
		}
	}
	return l
}

// near is whether epoch is one of the fresh ones from now on, told by whole numbers of any length.
func near(epoch, now int64, fresh int) bool {
	d := new(big.Int).Sub(big.NewInt(epoch), big.NewInt(now))
	return d.Sign() >= 0 && d.Cmp(big.NewInt(int64(fresh))) < 0
}

// twin is a second telling of a Table: it keeps a list of all that ever was put, and of each whether it was dropped.
type twin struct {
	n, m, fresh int
	samples     []api.Sample
	gone        []bool
}

// may is a second telling of May.
func (w *twin) may(s api.Sample, now int64) int {
	if s.Who < 0 || s.Who > w.n-1 || s.Metric < 0 || s.Metric > w.m-1 || s.Value < 0 || s.Value > 1099511627776 {
		return 1
	}
	if !near(s.Epoch, now, w.fresh) {
		return 7
	}
	for i, o := range w.samples {
		if !w.gone[i] && !ahead(o, s) && !ahead(s, o) {
			return 8
		}
	}
	return 0
}

// put is a second telling of Put.
func (w *twin) put(s api.Sample, now int64) int {
	code := w.may(s, now)
	if code == 0 {
		w.samples, w.gone = append(w.samples, s), append(w.gone, false)
	}
	return code
}

// only is those that are there and of which that holds, by their order.
func (w *twin) only(holds func(s api.Sample) bool) []api.Sample {
	var l []api.Sample
	for i, s := range w.samples {
		if !w.gone[i] && holds(s) {
			l = append(l, s)
		}
	}
	return ordered(l)
}

// drop is a second telling of Drop.
func (w *twin) drop(epoch int64) int {
	n := 0
	for i, s := range w.samples {
		if !w.gone[i] && s.Epoch <= epoch {
			w.gone[i] = true
			n++
		}
	}
	return n
}

func TestNewAtTheEdges(t *testing.T) { // 11.1: each at its least and its most, and whatever is beyond
	for n := 1; n <= 16; n++ {
		for m := 1; m <= 4; m++ {
			for fresh := 1; fresh <= 8; fresh++ {
				stands(t, made(t, n, m, fresh), nil)
			}
		}
	}
	may := []func(v int64) *Table{
		func(v int64) *Table { return New(int(v), 4, 8) },
		func(v int64) *Table { return New(16, int(v), 8) },
		func(v int64) *Table { return New(16, 4, int(v)) },
		func(v int64) *Table { return New(int(v), 1, 1) },
		func(v int64) *Table { return New(1, int(v), 1) },
		func(v int64) *Table { return New(1, 1, int(v)) },
	}
	for i, ask := range may {
		for _, v := range slices.Concat(wild(), large(), []int64{0, []int64{16, 4, 8}[i%3] + 1}) {
			if ask(v) != nil {
				t.Errorf("New with %d in place of its number %d is not nil", v, i%3+1)
			}
		}
	}
}

func TestNewOfSeveralThatMayNotBe(t *testing.T) { // 11.1: one that may not be is enough, and those that may don't make it up
	for _, n := range []int{0, 1, 4, 5, 8, 9, 16, 17} {
		for _, m := range []int{0, 1, 4, 5, 8, 9, 16, 17} {
			for _, fresh := range []int{0, 1, 4, 5, 8, 9, 16, 17} {
				may := n >= 1 && n <= 16 && m >= 1 && m <= 4 && fresh >= 1 && fresh <= 8
				if (New(n, m, fresh) != nil) != may {
					t.Errorf("New(%d, %d, %d) is nil: %v", n, m, fresh, may)
				}
			}
		}
	}
}

func TestExample(t *testing.T) { // the chapter's: the same sample twice
	w := made(t, 4, 1, 2)
	s := api.Sample{Who: 2, Metric: 0, Epoch: 7, Value: 1500}
	for i, want := range []int{api.OK, api.ErrTwice, api.ErrTwice} {
		if code := w.Put(s, 7); code != want {
			t.Errorf("Put is %d at the time %d", code, i)
		}
	}
	stands(t, w, []api.Sample{s})
	tells(t, w, 7, 0, s)
}

func TestMayOfWho(t *testing.T) { // 11.1: from 0 to n less 1
	for n := 1; n <= 16; n++ {
		for _, who := range slices.Concat(wild(), large(), []int64{int64(n), int64(n) + 1, 16}) {
			w := made(t, n, 4, 8)
			refuses(t, w, api.Sample{Who: int(who), Metric: 3, Epoch: 5, Value: 6}, 5, api.ErrArg)
		}
		w := made(t, n, 4, 8)
		for who := range n {
			puts(t, w, at(5, 3, who))
		}
	}
}

func TestMayOfMetric(t *testing.T) { // 11.1: from 0 to m less 1
	for m := 1; m <= 4; m++ {
		for _, metric := range slices.Concat(wild(), large(), []int64{int64(m), int64(m) + 1, 4, 5, 8, 16}) {
			w := made(t, 16, m, 8)
			refuses(t, w, api.Sample{Who: 15, Metric: int(metric), Epoch: 5, Value: 6}, 5, api.ErrArg)
		}
		w := made(t, 16, m, 8)
		for metric := range m {
			puts(t, w, at(5, metric, 15))
		}
	}
}

func TestMayOfValue(t *testing.T) { // 11.1: from 0 to MaxValue, and it is told as it came
	for _, v := range wild() {
		refuses(t, made(t, 4, 2, 2), api.Sample{Who: 1, Metric: 1, Epoch: 5, Value: v}, 5, api.ErrArg)
	}
	for _, v := range append(large(), 0, 1, 2, 1<<32-1, most-2) {
		w := made(t, 4, 2, 2)
		s := api.Sample{Who: 1, Metric: 1, Epoch: 5, Value: v}
		puts(t, w, s)
		tells(t, w, 5, 1, s)
	}
}

func TestWhoAndMetricAreNotChangedAbout(t *testing.T) { // 11.1: each by its own number
	w := made(t, 3, 1, 8)
	refuses(t, w, at(5, 1, 0), 5, api.ErrArg)
	refuses(t, w, at(5, 2, 0), 5, api.ErrArg)
	puts(t, w, at(5, 0, 2))
	w = made(t, 1, 3, 8)
	refuses(t, w, at(5, 0, 1), 5, api.ErrArg)
	refuses(t, w, at(5, 0, 2), 5, api.ErrArg)
	puts(t, w, at(5, 2, 0))
}

func TestMayOfEpoch(t *testing.T) { // 11.1: from now to now and fresh less 1
	for fresh := 1; fresh <= 8; fresh++ {
		for _, now := range []int64{-100, -8, -1, 0, 1, 5, 100, 1 << 32, most - 1, most, most + 1, 1 << 62} {
			w := made(t, 4, 2, fresh)
			for d := int64(-20); d < 0; d++ {
				refuses(t, w, at(now+d, 1, 3), now, api.ErrStale)
			}
			for d := int64(fresh); d < 30; d++ {
				refuses(t, w, at(now+d, 1, 3), now, api.ErrStale)
			}
			for d := range int64(fresh) {
				putsAt(t, w, at(now+d, 1, 3), now)
			}
			if n := len(w.All()); n != fresh {
				t.Errorf("of a fresh of %d, %d epochs have a sample at %d", fresh, n, now)
			}
		}
	}
}

func TestMayOfEpochAtTheEndsOf64Bits(t *testing.T) { // 11.1: compared without going beyond 64 bits
	for fresh := 1; fresh <= 8; fresh++ {
		for _, now := range nows() {
			for _, epoch := range nows() {
				w := made(t, 4, 2, fresh)
				if s := at(epoch, 0, 2); near(epoch, now, fresh) {
					putsAt(t, w, s, now)
					refuses(t, w, s, now, api.ErrTwice)
				} else {
					refuses(t, w, s, now, api.ErrStale)
				}
			}
		}
	}
}

func TestTheLastEpochs(t *testing.T) { // 11.1: now and fresh less 1 goes beyond 64 bits, so all up to the last are fresh
	w := made(t, 2, 1, 8)
	for d := range int64(7) {
		refuses(t, w, at(least+d, 0, 0), greatest-3, api.ErrStale)
	}
	refuses(t, w, at(greatest-4, 0, 0), greatest-3, api.ErrStale)
	for d := range int64(4) {
		putsAt(t, w, at(greatest-d, 0, 0), greatest-3)
	}
	putsAt(t, w, at(greatest, 0, 1), greatest)
	stands(t, w, []api.Sample{at(greatest-3, 0, 0), at(greatest-2, 0, 0), at(greatest-1, 0, 0), at(greatest, 0, 0), at(greatest, 0, 1)})
}

func TestTheFirstEpochs(t *testing.T) { // 11.1: far below now, although the difference wraps round to a small one
	for fresh := 1; fresh <= 8; fresh++ {
		w := made(t, 2, 1, fresh)
		for d := range int64(9) {
			for e := range int64(9) {
				refuses(t, w, at(least+d, 0, 0), greatest-e, api.ErrStale)
				refuses(t, w, at(greatest-e, 0, 0), least+d, api.ErrStale)
				refuses(t, w, at(d, 0, 0), least+e, api.ErrStale)
				refuses(t, w, at(least+e, 0, 0), d, api.ErrStale)
			}
		}
	}
}

func TestAnEpochIsNotAskedBeyondNow(t *testing.T) { // 11.1: whatever now is
	w := made(t, 4, 2, 3)
	for _, now := range []int64{-5, least, most + 1, greatest} {
		putsAt(t, w, at(now, 1, 1), now)
		refuses(t, w, at(now, 1, 1), now, api.ErrTwice)
	}
}

func TestTwice(t *testing.T) { // 11.1, 11.3: one of this Who, Metric and Epoch is there, whatever its Value
	for _, now := range []int64{-1, 0, 7, most, greatest - 7} {
		for d := range int64(8) {
			w := made(t, 16, 4, 8)
			s := at(now+d, 2, 9)
			putsAt(t, w, s, now)
			for _, v := range []int64{0, 1, s.Value, 1<<32 + s.Value, most} {
				again := s
				again.Value = v
				refuses(t, w, again, now, api.ErrTwice)
				refuses(t, w, again, now+d, api.ErrTwice)
			}
			tells(t, w, now+d, 2, s)
		}
	}
}

func TestTwiceOfEachValue(t *testing.T) { // 11.1: a sample of 0 is there as any other one
	for _, first := range []int64{0, 1, 1 << 32, most} {
		for _, again := range []int64{0, 1, 1 << 32, most} {
			w := made(t, 4, 2, 2)
			s := api.Sample{Who: 1, Metric: 1, Epoch: 5, Value: first}
			puts(t, w, s)
			refuses(t, w, api.Sample{Who: 1, Metric: 1, Epoch: 5, Value: again}, 5, api.ErrTwice)
			tells(t, w, 5, 1, s)
			drops(t, w, 5, 1)
		}
	}
}

func TestUnlikeInOneAlone(t *testing.T) { // 11.1: that's another place, of the same Value too
	s := api.Sample{Who: 1, Metric: 1, Epoch: 11, Value: 5}
	for who := range 16 {
		for metric := range 4 {
			for epoch := int64(10); epoch < 18; epoch++ {
				w := made(t, 16, 4, 8)
				puts(t, w, s)
				o := api.Sample{Who: who, Metric: metric, Epoch: epoch, Value: 5}
				if o == s {
					refuses(t, w, o, 10, api.ErrTwice)
					continue
				}
				putsAt(t, w, o, 10)
				refuses(t, w, o, 10, api.ErrTwice)
				refuses(t, w, s, 10, api.ErrTwice)
			}
		}
	}
}

func TestEachPlaceIsItsOwn(t *testing.T) { // 11.1, 11.3: all that may be there at once are, each once
	w := made(t, 16, 4, 8)
	l := full(16, 4, 8, 100)
	for _, s := range l {
		if code := w.Put(s, 100); code != api.OK {
			t.Fatalf("Put(%v, 100) is %d", s, code)
		}
	}
	stands(t, w, l)
	for _, s := range l {
		refuses(t, w, s, 100, api.ErrTwice)
		s.Value = most
		refuses(t, w, s, 100, api.ErrTwice)
	}
}

func TestEpochsThatAreAlikeInASmallerKind(t *testing.T) { // 11.1, 11.3: none is taken for another
	w := made(t, 2, 2, 1)
	var l []api.Sample
	for _, e := range nows() {
		l = append(l, at(e, 1, 1))
		puts(t, w, at(e, 1, 1))
	}
	stands(t, w, l)
	for _, s := range l {
		refuses(t, w, s, s.Epoch, api.ErrTwice)
		tells(t, w, s.Epoch, 1, s)
		tells(t, w, s.Epoch, 0)
	}
}

func TestWhichErrorIsTold(t *testing.T) { // 11.1, rule 4: first that of the numbers, then that of the epoch, then that it is there
	w := made(t, 4, 2, 2)
	s := at(10, 1, 3)
	puts(t, w, s)
	for _, now := range []int64{10, 9, 11, 8, least, greatest} { // there, fresh or not
		for _, v := range []api.Sample{
			{Who: -1, Metric: 1, Epoch: 10, Value: 6}, {Who: 4, Metric: 1, Epoch: 10, Value: 6},
			{Who: 3, Metric: -1, Epoch: 10, Value: 6}, {Who: 3, Metric: 2, Epoch: 10, Value: 6},
			{Who: 3, Metric: 1, Epoch: 10, Value: -1}, {Who: 3, Metric: 1, Epoch: 10, Value: most + 1},
			{Who: 4, Metric: 2, Epoch: 10, Value: -1},
		} {
			refuses(t, w, v, now, api.ErrArg)
		}
	}
	for _, now := range []int64{11, 8, least, greatest} {
		refuses(t, w, s, now, api.ErrStale)
	}
	for _, now := range []int64{10, 9} {
		refuses(t, w, s, now, api.ErrTwice)
	}
}

func TestWhatIsRefusedChangesNothing(t *testing.T) { // 11.1: what was there stays, and what wasn't may come
	w := made(t, 4, 2, 2)
	l := full(4, 2, 1, 10)
	for _, s := range l {
		puts(t, w, s)
		refuses(t, w, at(9, 0, 0), 10, api.ErrStale)
		refuses(t, w, at(12, 0, 0), 10, api.ErrStale)
		refuses(t, w, at(11, 2, 0), 10, api.ErrArg)
		refuses(t, w, at(11, 0, 4), 10, api.ErrArg)
		s.Value++
		refuses(t, w, s, 10, api.ErrTwice)
	}
	tells(t, w, 10, 0, l[:4]...)
	tells(t, w, 10, 1, l[4:]...)
	tells(t, w, 9, 0)
	tells(t, w, 12, 0)
	putsAt(t, w, at(9, 0, 0), 9)
	putsAt(t, w, at(11, 0, 0), 10)
	putsAt(t, w, at(12, 0, 0), 11)
}

func TestNowIsNotKept(t *testing.T) { // 11.1: each call has its own, forth and back
	w := made(t, 4, 2, 2)
	for i, now := range []int64{50, 10, 60, 9, 1 << 40, -3, 8} {
		putsAt(t, w, at(now, i%2, i%4), now)
		refuses(t, w, at(now-1, i%2, i%4), now, api.ErrStale)
		putsAt(t, w, at(now+1, i%2, 3-i%4), now)
	}
}

func TestMayTakesNothing(t *testing.T) { // 11.1: however often it is asked
	w := made(t, 4, 2, 2)
	for range 10 {
		if code := w.May(at(5, 1, 1), 5); code != api.OK {
			t.Fatalf("May is %d", code)
		}
	}
	stands(t, w, nil)
	tells(t, w, 5, 1)
	drops(t, w, 5, 0)
	puts(t, w, at(5, 1, 1))
}

func TestOf(t *testing.T) { // 11.2: by Who, of that epoch and metric alone, in whatever order they came
	dice := rand.New(rand.NewPCG(11, 2))
	for range 200 {
		w := made(t, 16, 4, 8)
		l := full(16, 4, 8, 20)
		dice.Shuffle(len(l), func(i, j int) { l[i], l[j] = l[j], l[i] })
		l = l[:dice.IntN(len(l)+1)]
		for _, s := range l {
			w.Put(s, 20)
		}
		for epoch := int64(18); epoch < 31; epoch++ {
			for metric := -2; metric < 7; metric++ {
				var want []api.Sample
				for _, s := range ordered(l) {
					if s.Epoch == epoch && s.Metric == metric {
						want = append(want, s)
					}
				}
				tells(t, w, epoch, metric, want...)
			}
		}
	}
}

func TestOfWhatIsNotThere(t *testing.T) { // 11.2: nothing, in an empty Table and in one that has others
	empty, w := made(t, 4, 2, 2), made(t, 4, 2, 2)
	puts(t, w, full(4, 2, 1, 5)...)
	for _, e := range nows() {
		for _, metric := range append(wild(), large()...) {
			tells(t, w, e, int(metric))
			tells(t, empty, e, int(metric))
		}
		for metric := range 5 {
			tells(t, empty, e, metric)
			if e != 5 || metric > 1 {
				tells(t, w, e, metric)
			}
		}
	}
	tells(t, w, 5, 0, at(5, 0, 0), at(5, 0, 1), at(5, 0, 2), at(5, 0, 3))
	tells(t, w, 5, 1, at(5, 1, 0), at(5, 1, 1), at(5, 1, 2), at(5, 1, 3))
}

func TestOfSome(t *testing.T) { // 11.2: who has none is left out: each choice of collectors
	for choice := range 1 << 10 {
		w := made(t, 10, 1, 1)
		var want []api.Sample
		for who := 9; who >= 0; who-- {
			if choice>>who&1 == 1 {
				w.Put(at(3, 0, who), 3)
				want = slices.Insert(want, 0, at(3, 0, who))
			}
		}
		tells(t, w, 3, 0, want...)
	}
}

func TestDrop(t *testing.T) { // 11.2: all of Epochs up to it, how many, and what is left
	for epoch := int64(-3); epoch < 20; epoch++ {
		w := made(t, 3, 2, 8)
		l := []api.Sample{at(-2, 0, 0), at(0, 0, 1), at(1, 1, 1), at(5, 0, 0), at(5, 0, 1), at(5, 0, 2), at(5, 1, 0), at(7, 1, 2), at(8, 0, 0), at(8, 1, 0), at(12, 0, 2), at(13, 1, 2)}
		puts(t, w, l...)
		n := 0
		for _, s := range l {
			if s.Epoch <= epoch {
				n++
			}
		}
		drops(t, w, epoch, n, l[n:]...)
		drops(t, w, epoch, 0, l[n:]...)
		drops(t, w, epoch-1, 0, l[n:]...)
		drops(t, w, 13, len(l)-n)
		drops(t, w, 13, 0)
	}
}

func TestDropNumbersByHand(t *testing.T) { // 11.2
	w := made(t, 3, 2, 8)
	puts(t, w, at(5, 0, 0), at(5, 1, 2), at(6, 0, 1), at(9, 1, 1))
	drops(t, w, 4, 0, at(5, 0, 0), at(5, 1, 2), at(6, 0, 1), at(9, 1, 1))
	drops(t, w, 5, 2, at(6, 0, 1), at(9, 1, 1))
	drops(t, w, 8, 1, at(9, 1, 1))
	drops(t, w, 8, 0, at(9, 1, 1))
	drops(t, w, 9, 1)
	drops(t, w, greatest, 0)
}

func TestDropAtTheEndsOf64Bits(t *testing.T) { // 11.2
	for _, epoch := range nows() {
		w := made(t, 2, 2, 1)
		var left []api.Sample
		n := 0
		for _, e := range nows() {
			puts(t, w, at(e, 0, 1))
			if big.NewInt(e).Cmp(big.NewInt(epoch)) <= 0 {
				n++
			} else {
				left = append(left, at(e, 0, 1))
			}
		}
		drops(t, w, epoch, n, left...)
	}
}

func TestDropOfNone(t *testing.T) { // 11.2: of an empty Table, and of one that was emptied
	w := made(t, 4, 2, 2)
	for range 3 {
		for _, e := range nows() {
			drops(t, w, e, 0)
		}
		w.Put(at(5, 0, 0), 5)
		drops(t, w, 5, 1)
	}
}

func TestDropOfAll(t *testing.T) { // 11.2: as many as may be fresh at once
	for _, n := range []int{1, 3, 16} {
		for _, m := range []int{1, 2, 4} {
			w := made(t, n, m, 8)
			for _, s := range full(n, m, 8, 40) {
				w.Put(s, 40)
			}
			for e := int64(40); e < 47; e++ {
				drops(t, w, e, n*m, full(n, m, int(47-e), e+1)...)
			}
			drops(t, w, 47, n*m)
		}
	}
}

func TestADroppedPlaceIsTakenAgain(t *testing.T) { // 11.1, 11.2: it isn't there any more, so it may come, with another value too
	w := made(t, 4, 2, 2)
	for i := range int64(5) {
		s := api.Sample{Who: 2, Metric: 1, Epoch: 10, Value: 1000 - i}
		putsAt(t, w, s, 9)
		putsAt(t, w, at(10, 0, 2), 10)
		putsAt(t, w, at(11, 1, 2), 10)
		refuses(t, w, s, 10, api.ErrTwice)
		tells(t, w, 10, 1, s)
		drops(t, w, 10, 2, at(11, 1, 2))
		tells(t, w, 10, 1)
		refuses(t, w, s, 11, api.ErrStale) // now alone tells which epoch is closed
		refuses(t, w, at(11, 1, 2), 11, api.ErrTwice)
		drops(t, w, 11, 1)
	}
}

func TestAllIsOrdered(t *testing.T) { // 11.2: by Epoch, then Metric, then Who; by hand
	w := made(t, 16, 4, 8)
	for _, s := range []api.Sample{{Who: 15, Metric: 3, Epoch: 9, Value: 1}, {Who: 0, Metric: 0, Epoch: 11, Value: 2}, {Who: 2, Metric: 3, Epoch: 9, Value: 3}, {Who: 10, Metric: 0, Epoch: 9, Value: 4}, {Who: 1, Metric: 2, Epoch: 10, Value: 5}, {Who: 9, Metric: 0, Epoch: 9, Value: 6}, {Who: 3, Metric: 1, Epoch: 10, Value: 7}} {
		w.Put(s, 9)
	}
	stands(t, w, []api.Sample{{Who: 9, Metric: 0, Epoch: 9, Value: 6}, {Who: 10, Metric: 0, Epoch: 9, Value: 4}, {Who: 2, Metric: 3, Epoch: 9, Value: 3}, {Who: 15, Metric: 3, Epoch: 9, Value: 1}, {Who: 3, Metric: 1, Epoch: 10, Value: 7}, {Who: 1, Metric: 2, Epoch: 10, Value: 5}, {Who: 0, Metric: 0, Epoch: 11, Value: 2}})
}

func TestAllByAnyOfThem(t *testing.T) { // 11.2: any two places, whichever came first
	l := []api.Sample{at(least, 1, 1), at(-1, 3, 0), at(0, 0, 0), at(0, 0, 1), at(0, 1, 0), at(0, 3, 15), at(1, 0, 0), at(1, 2, 2), at(256, 0, 10), at(256, 0, 11), at(1<<32, 0, 0), at(most, 3, 3), at(greatest, 0, 0)}
	for i, a := range l {
		for j, b := range l {
			if i == j {
				continue
			}
			w := made(t, 16, 4, 1)
			w.Put(a, a.Epoch)
			w.Put(b, b.Epoch)
			stands(t, w, []api.Sample{l[min(i, j)], l[max(i, j)]})
		}
	}
}

// orders calls each with all orders of l.
func orders(l []api.Sample, n int, each func(l []api.Sample)) {
	if n == len(l) {
		each(l)
		return
	}
	for i := n; i < len(l); i++ {
		l[n], l[i] = l[i], l[n]
		orders(l, n+1, each)
		l[n], l[i] = l[i], l[n]
	}
}

func TestInWhateverOrderTheyCome(t *testing.T) { // 11.3: the same samples are told in the same order
	l := []api.Sample{at(-1, 0, 1), at(0, 0, 0), at(0, 0, 3), at(0, 1, 0), at(1, 0, 0), at(1, 1, 3)}
	orders(slices.Clone(l), 0, func(come []api.Sample) {
		w := made(t, 4, 2, 3)
		for _, s := range come {
			if code := w.Put(s, -1); code != api.OK {
				t.Fatalf("Put(%v, -1) is %d", s, code)
			}
		}
		stands(t, w, l)
		tells(t, w, 0, 0, at(0, 0, 0), at(0, 0, 3))
	})
}

func TestOneWordOfEach(t *testing.T) { // 11.3: the first of them, whatever came behind it, in all orders
	l := []api.Sample{{Who: 1, Metric: 0, Epoch: 4, Value: 10}, {Who: 1, Metric: 0, Epoch: 4, Value: 11}, {Who: 1, Metric: 0, Epoch: 4, Value: 9}, {Who: 0, Metric: 0, Epoch: 4, Value: 10}, {Who: 1, Metric: 1, Epoch: 4, Value: 10}, {Who: 1, Metric: 0, Epoch: 5, Value: 10}}
	orders(l, 0, func(come []api.Sample) {
		w := made(t, 2, 2, 2)
		first := int64(-1)
		for _, s := range come {
			want := api.OK
			if s.Who == 1 && s.Metric == 0 && s.Epoch == 4 {
				if first >= 0 {
					want = api.ErrTwice
				} else {
					first = s.Value
				}
			}
			if code := w.Put(s, 4); code != want {
				t.Fatalf("Put(%v, 4) is %d, not %d", s, code, want)
			}
		}
		tells(t, w, 4, 0, api.Sample{Who: 0, Metric: 0, Epoch: 4, Value: 10}, api.Sample{Who: 1, Metric: 0, Epoch: 4, Value: first})
		if n := len(w.All()); n != 4 {
			t.Fatalf("there are %d samples", n)
		}
	})
}

// agrees holds what w tells against the second telling.
func agrees(t *testing.T, w *Table, o *twin) {
	t.Helper()
	stands(t, w, o.only(func(api.Sample) bool { return true }))
	for _, s := range w.All() {
		tells(t, w, s.Epoch, s.Metric, o.only(func(a api.Sample) bool { return a.Epoch == s.Epoch && a.Metric == s.Metric })...)
	}
}

// thrown is a sample near now, of which some may not be.
func thrown(dice *rand.Rand, n, m, fresh int, now int64) api.Sample {
	s := api.Sample{Who: dice.IntN(n), Metric: dice.IntN(m), Epoch: now + dice.Int64N(int64(fresh)), Value: dice.Int64N(most + 1)}
	switch dice.IntN(30) {
	case 0:
		s.Who = []int{-1, n, n + 1, math.MinInt, math.MaxInt}[dice.IntN(5)]
	case 1:
		s.Metric = []int{-1, m, m + 1, math.MinInt, math.MaxInt}[dice.IntN(5)]
	case 2:
		s.Value = wild()[dice.IntN(len(wild()))]
	case 3, 4:
		s.Epoch = now - 1 - dice.Int64N(3)
	case 5, 6:
		s.Epoch = now + int64(fresh) + dice.Int64N(3)
	case 7:
		s.Epoch = nows()[dice.IntN(len(nows()))]
	}
	return s
}

func TestCallsInAnyOrder(t *testing.T) { // 11.1 to 11.3, T1: as the second telling, that keeps all that ever was
	dice := rand.New(rand.NewPCG(11, 1))
	for range 300 {
		n, m, fresh := 1+dice.IntN(16), 1+dice.IntN(4), 1+dice.IntN(8)
		w, o := made(t, n, m, fresh), &twin{n: n, m: m, fresh: fresh}
		now := nows()[dice.IntN(len(nows()))]
		for range 150 {
			s := thrown(dice, n, m, fresh, now)
			switch dice.IntN(12) {
			case 0:
				now += dice.Int64N(3)
			case 1:
				now -= dice.Int64N(3)
			case 2:
				epoch := now + dice.Int64N(8) - 4
				if got, want := w.Drop(epoch), o.drop(epoch); got != want {
					t.Fatalf("Drop(%d) is %d, not %d", epoch, got, want)
				}
			case 3:
				if got, want := w.May(s, now), o.may(s, now); got != want {
					t.Fatalf("May(%v, %d) is %d, not %d", s, now, got, want)
				}
			default:
				if got, want := w.Put(s, now), o.put(s, now); got != want {
					t.Fatalf("Put(%v, %d) is %d, not %d", s, now, got, want)
				}
			}
		}
		agrees(t, w, o)
	}
}

func TestEpochByEpoch(t *testing.T) { // 11.1 to 11.3: as the controller goes: put what is fresh, tell of now, drop it, and go on
	dice := rand.New(rand.NewPCG(11, 3))
	w, o := made(t, 7, 3, 4), &twin{n: 7, m: 3, fresh: 4}
	for now := range int64(300) {
		for range dice.IntN(60) {
			s := api.Sample{Who: dice.IntN(7), Metric: dice.IntN(3), Epoch: now + dice.Int64N(5), Value: dice.Int64N(5000)}
			if got, want := w.Put(s, now), o.put(s, now); got != want {
				t.Fatalf("Put(%v, %d) is %d, not %d", s, now, got, want)
			}
		}
		agrees(t, w, o)
		if got, want := w.Drop(now), o.drop(now); got != want {
			t.Fatalf("Drop(%d) is %d, not %d", now, got, want)
		}
		for metric := range 3 {
			tells(t, w, now, metric)
		}
		agrees(t, w, o)
	}
}

func TestMany(t *testing.T) { // 11.1, 11.2: as many epochs as ever are put, since now may be anything
	w := made(t, 2, 1, 1)
	const epochs = 20000
	for i := range int64(epochs) {
		e := i * 7919 % epochs
		if code := w.Put(at(e, 0, int(e%2)), e); code != api.OK {
			t.Fatalf("Put at %d is %d", e, code)
		}
	}
	all := w.All()
	for i, s := range all {
		if s != at(int64(i), 0, i%2) {
			t.Fatalf("All has %v at its place %d", s, i)
		}
	}
	if n := w.Drop(epochs/2 - 1); n != epochs/2 || len(all) != epochs || len(w.All()) != epochs/2 {
		t.Errorf("of %d, Drop took %d away, and left %d", len(all), n, len(w.All()))
	}
}

// spoil changes all that l has, and writes behind it too.
func spoil(l []api.Sample) {
	l = l[:cap(l)]
	for i := range l {
		l[i] = api.Sample{Who: -1, Metric: -1, Epoch: -77, Value: -1}
	}
}

func TestWhatWasToldIsTheCallers(t *testing.T) { // rule 2: the Table stays when it is changed, and no answer shares with another
	w := made(t, 4, 2, 2)
	l := full(4, 2, 2, 10)
	for i, s := range l {
		putsAt(t, w, s, 10)
		all, of := w.All(), w.Of(s.Epoch, s.Metric)
		other, row := w.All(), w.Of(s.Epoch, s.Metric)
		spoil(all)
		spoil(of)
		stands(t, w, l[:i+1])
		tells(t, w, s.Epoch, s.Metric, row...)
		if !slices.Equal(other, l[:i+1]) || row[len(row)-1] != s {
			t.Errorf("one answer was changed with another: %v, %v", other, row)
		}
	}
}

func TestWhatWasToldStays(t *testing.T) { // rule 2: also when the Table is changed
	w := made(t, 4, 2, 2)
	l := full(4, 2, 1, 10)
	puts(t, w, l...)
	all, of := w.All(), w.Of(10, 1)
	puts(t, w, full(4, 2, 1, 9)...)
	w.Drop(10)
	puts(t, w, api.Sample{Who: 1, Metric: 1, Epoch: 10, Value: 1})
	if !slices.Equal(all, l) || !slices.Equal(of, l[4:]) {
		t.Errorf("what was told changed: %v, %v", all, of)
	}
}

func TestOfNil(t *testing.T) { // 11.2: ErrArg, nothing, 0
	var w *Table
	samples := []api.Sample{{}, at(5, 0, 0), {Who: -1}, {Value: -1}, {Epoch: greatest}}
	for _, now := range append(nows(), 5) {
		for _, s := range samples {
			refuses(t, w, s, now, api.ErrArg)
		}
		for metric := -1; metric < 5; metric++ {
			tells(t, w, now, metric)
		}
		drops(t, w, now, 0)
	}
}

func TestOfOneThatNewDidNotMake(t *testing.T) { // rule 1: it has no collectors, so nothing may be put
	w := &Table{}
	for _, s := range []api.Sample{{}, at(5, 0, 0), {Who: -1}, {Metric: -1}, {Value: -1}} {
		refuses(t, w, s, s.Epoch, api.ErrArg)
		tells(t, w, s.Epoch, s.Metric)
		drops(t, w, s.Epoch, 0)
	}
}

func TestTwoTables(t *testing.T) { // rule 3: each has its own
	a, b := made(t, 4, 2, 2), made(t, 4, 2, 2)
	puts(t, a, at(5, 1, 1))
	stands(t, b, nil)
	puts(t, b, at(5, 1, 1), at(6, 1, 1))
	drops(t, b, 5, 1, at(6, 1, 1))
	stands(t, a, []api.Sample{at(5, 1, 1)})
	refuses(t, a, at(5, 1, 1), 5, api.ErrTwice)
	drops(t, a, 6, 1)
	stands(t, b, []api.Sample{at(6, 1, 1)})
}

func TestTheSameEachTime(t *testing.T) { // rule 3: the same calls give the same answers, whatever others do with their Tables
	l := full(16, 4, 8, 3)
	var all sync.WaitGroup
	for i := range 8 {
		all.Go(func() {
			w := New(16, 4, 8)
			dice := rand.New(rand.NewPCG(11, uint64(i)))
			for range 20 {
				come := slices.Clone(l)
				dice.Shuffle(len(come), func(i, j int) { come[i], come[j] = come[j], come[i] })
				for _, s := range come {
					w.Put(s, 3)
				}
				for range 3 {
					if !slices.Equal(w.All(), l) || !slices.Equal(w.Of(10, 3), l[len(l)-16:]) {
						t.Error("what is told hangs on the order in which it came")
					}
				}
				if n := w.Drop(10); n != len(l) {
					t.Errorf("Drop is %d, not %d", n, len(l))
				}
			}
		})
	}
	all.Wait()
}

func TestAskedByManyAtOnce(t *testing.T) { // rule 3: what only tells may be asked at one time
	w := made(t, 4, 2, 2)
	l := full(4, 2, 2, 10)
	for _, s := range l {
		putsAt(t, w, s, 10)
	}
	var all sync.WaitGroup
	for range 8 {
		all.Go(func() {
			for range 100 {
				if !slices.Equal(w.All(), l) || !slices.Equal(w.Of(10, 1), l[4:8]) || w.May(l[3], 10) != api.ErrTwice {
					t.Error("one that was asked by many told something else")
				}
			}
		})
	}
	all.Wait()
}
