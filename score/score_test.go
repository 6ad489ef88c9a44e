package score

import (
	"math"
	"math/rand/v2"
	"slices"
	"sync"
	"testing"

	"quorumite/api"
)

const (
	most     = 1 << 40
	least    = math.MinInt64
	greatest = math.MaxInt64
	none     = -7777 // in a row: this collector has no sample
)

// wild are numbers that nothing may be: next to 0, at the ends of 64 bits, and where a smaller kind would take them for others.
func wild() []int64 {
	return []int64{-1, -2, -3, -16, -100, -255, -256, -1 << 31, -1 << 32, -1<<32 + 1, -1 << 40, -1<<40 - 1, -1 << 62, least + 1, least, most + 1, most + 2, 2 * most, most + 1<<32, 1<<48 + 3, 1 << 62, 1<<62 + 1, greatest - 1, greatest}
}

// large are numbers that are no collector and no limit, where a smaller kind would take some of them for one.
func large() []int64 {
	return []int64{101, 102, 127, 128, 255, 256, 257, 258, 1<<16 + 1, 1<<31 - 1, 1 << 31, 1 << 32, 1<<32 + 1, 1<<32 + 3, most - 1, most}
}

// up is how one stands that has so many strikes.
func up(strikes int) api.Standing { return api.Standing{Strikes: strikes} }

// away is how one stands that is out and was there for so many epochs.
func away(clean int) api.Standing { return api.Standing{Clean: clean, Out: true} }

// row is a metric's samples: one of each collector, by number, whose value isn't none.
func row(values ...int64) []api.Sample {
	var l []api.Sample
	for who, v := range values {
		if v != none {
			l = append(l, api.Sample{Who: who, Value: v})
		}
	}
	return l
}

// rows are an epoch's samples: of each metric a row.
func rows(l ...[]api.Sample) [][]api.Sample { return l }

// copied is l in memory of its own.
func copied(l [][]api.Sample) [][]api.Sample {
	c := slices.Clone(l)
	for i := range c {
		c[i] = slices.Clone(c[i])
	}
	return c
}

// made is a Score of numbers of which it is known that they may be.
func made(t *testing.T, n, strikes, probe int, far int64) *Score {
	t.Helper()
	s := New(n, strikes, probe, far)
	if s == nil {
		t.Fatalf("New(%d, %d, %d, %d) is nil", n, strikes, probe, far)
	}
	return s
}

// sets makes the collectors stand as l, by number, which must go.
func sets(t *testing.T, s *Score, l ...api.Standing) {
	t.Helper()
	for who, want := range l {
		if code := s.Set(who, want); code != api.OK {
			t.Fatalf("Set(%d, %v) is %d", who, want, code)
		}
		if got, code := s.Get(who); got != want || code != api.OK {
			t.Fatalf("Get(%d) is %v, %d behind Set of %v", who, got, code, want)
		}
	}
}

// stands holds All, Get and Out against how all stand.
func stands(t *testing.T, s *Score, l ...api.Standing) {
	t.Helper()
	if all := s.All(); !slices.Equal(all, l) {
		t.Fatalf("All is %v, not %v", all, l)
	}
	for who, want := range l {
		if got, code := s.Get(who); got != want || code != api.OK {
			t.Fatalf("Get(%d) is %v, %d, not %v", who, got, code, want)
		}
		if s.Out(who) != want.Out {
			t.Fatalf("Out(%d) is %v", who, !want.Out)
		}
	}
	for _, who := range []int{-1, len(l), len(l) + 1} {
		if got, code := s.Get(who); !s.Out(who) || got != (api.Standing{}) || code != api.ErrWho {
			t.Fatalf("of collector %d, Out is %v, and Get %v, %d", who, s.Out(who), got, code)
		}
	}
}

// closes asks that Close tells these, and that what it is handed stays.
func closes(t *testing.T, s *Score, l [][]api.Sample, quorum int, gone ...int) {
	t.Helper()
	was := copied(l)
	if got := s.Close(l, quorum); !slices.Equal(got, gone) {
		t.Fatalf("Close of %v, %d is %v, not %v", was, quorum, got, gone)
	}
	if !slices.EqualFunc(l, was, slices.Equal) {
		t.Fatalf("what Close was handed is %v, and was %v", l, was)
	}
}

// refuses asks that Set is refused by the code, and that nothing changes by it.
func refuses(t *testing.T, s *Score, who int, by api.Standing, code int) {
	t.Helper()
	was := s.All()
	if got := s.Set(who, by); got != code {
		t.Errorf("Set(%d, %v) is %d, not %d", who, by, got, code)
	}
	stands(t, s, was...)
}

// after asks how all stand behind one epoch, where they stood as from ahead of it; the limits are 5 and 5, and far is 10.
func after(t *testing.T, from []api.Standing, l [][]api.Sample, quorum int, want ...api.Standing) {
	t.Helper()
	s := made(t, len(from), 5, 5, 10)
	sets(t, s, from...)
	var gone []int
	for who := range want {
		if want[who].Out && !from[who].Out {
			gone = append(gone, who)
		}
	}
	closes(t, s, l, quorum, gone...)
	stands(t, s, want...)
}

// all is n that stand alike.
func all(n int, one api.Standing) []api.Standing {
	return slices.Repeat([]api.Standing{one}, n)
}

// word is what an epoch says of one.
type word int

const (
	nothing word = iota
	good
	bad
)

// halfway is a second telling of the median: the value that has no more below it than go ahead of the middle, and enough with those that equal it.
func halfway(l []int64) (int64, bool) {
	for _, v := range l {
		if v < 0 || v > 1099511627776 || len(l) > 1000 {
			return 0, false
		}
	}
	for _, v := range l {
		below, upTo := 0, 0
		for _, n := range l {
			if n < v {
				below++
			}
			if n <= v {
				upTo++
			}
		}
		if k := (len(l) - 1) / 2; below <= k && k < upTo {
			return v, true
		}
	}
	return 0, false
}

// event is an epoch's end, or (set) how one was made to stand.
type event struct {
	rows   [][]api.Sample
	quorum int
	set    bool
	who    int
	by     api.Standing
}

// twin is a second telling of a Score: it keeps all that ever was, and tells by going over it from the beginning.
type twin struct {
	n, strikes, probe int
	far               int64
	past              []event
}

// said is what an epoch says of each, while l is how they stand.
func (w *twin) said(l []api.Standing, e event) []word {
	words := make([]word, w.n)
	for _, r := range e.rows {
		values := map[int][]int64{}
		var heard []int64
		for _, x := range r {
			if x.Who >= 0 && x.Who < w.n && !l[x.Who].Out {
				values[x.Who] = append(values[x.Who], x.Value)
				heard = append(heard, x.Value)
			}
		}
		m, ok := halfway(heard)
		if len(heard) == 0 || len(heard) < e.quorum || !ok {
			continue
		}
		for who := range w.n {
			for _, v := range values[who] {
				if v > m+w.far || v < m-w.far {
					words[who] = bad
				} else if words[who] == nothing {
					words[who] = good
				}
			}
		}
	}
	return words
}

// told is how all stand behind all that was, and who was put out by the last of it.
func (w *twin) told() ([]api.Standing, []int) {
	l := make([]api.Standing, w.n)
	var gone []int
	for _, e := range w.past {
		gone = nil
		if e.set {
			l[e.who] = e.by
			continue
		}
		words := w.said(l, e)
		for who := range l {
			if l[who].Out {
				l[who].Clean++
				if l[who].Clean == w.probe {
					l[who] = api.Standing{}
				}
			} else if words[who] == bad {
				l[who].Strikes++
				if l[who].Strikes == w.strikes {
					l[who] = api.Standing{Out: true}
					gone = append(gone, who)
				}
			} else if words[who] == good {
				l[who].Strikes = max(0, l[who].Strikes-1)
			}
		}
	}
	return l, gone
}

// close is a second telling of Close.
func (w *twin) close(l [][]api.Sample, quorum int) []int {
	w.past = append(w.past, event{rows: copied(l), quorum: quorum})
	_, gone := w.told()
	return gone
}

// set is a second telling of Set.
func (w *twin) set(who int, by api.Standing) int {
	if who < 0 || who > w.n-1 {
		return 3
	}
	if by.Strikes < 0 || by.Strikes > w.strikes-1 || by.Clean < 0 || by.Clean > w.probe-1 {
		return 1
	}
	if by.Out && by.Strikes != 0 || !by.Out && by.Clean != 0 {
		return 1
	}
	w.past = append(w.past, event{set: true, who: who, by: by})
	return 0
}

func TestNewAtTheEdges(t *testing.T) { // 12.1: each at its least and its most: all zero
	for n := 1; n <= 16; n++ {
		for _, strikes := range []int{1, 2, 3, 50, 99, 100} {
			for _, probe := range []int{1, 2, 4, 50, 99, 100} {
				for _, far := range []int64{0, 1, 100, 1 << 31, 1 << 32, most - 1, most} {
					stands(t, made(t, n, strikes, probe, far), all(n, up(0))...)
				}
			}
		}
	}
}

func TestNewBeyondTheEdges(t *testing.T) { // 12.1: nil
	may := []func(v int64) *Score{
		func(v int64) *Score { return New(int(v), 100, 100, most) },
		func(v int64) *Score { return New(16, int(v), 100, most) },
		func(v int64) *Score { return New(16, 100, int(v), most) },
		func(v int64) *Score { return New(16, 100, 100, v) },
		func(v int64) *Score { return New(int(v), 1, 1, 0) },
		func(v int64) *Score { return New(1, int(v), 1, 0) },
		func(v int64) *Score { return New(1, 1, int(v), 0) },
		func(v int64) *Score { return New(1, 1, 1, v) },
	}
	beyond := [][]int64{append(large(), 0, 17, 18, 100), append(large(), 0), append(large(), 0), nil}
	for i, ask := range may {
		for _, v := range append(wild(), beyond[i%4]...) {
			if ask(v) != nil {
				t.Errorf("New with %d in place of its number %d is not nil", v, i%4+1)
			}
		}
	}
}

func TestNewOfSeveralThatMayNotBe(t *testing.T) { // 12.1: one that may not be is enough, and those that may don't make it up
	for _, n := range []int{-1, 0, 1, 16, 17, 100, 101} {
		for _, strikes := range []int{-1, 0, 1, 16, 17, 100, 101} {
			for _, probe := range []int{-1, 0, 1, 16, 17, 100, 101} {
				for _, far := range []int64{-1, 0, 1, 100, 101, most, most + 1} {
					may := n >= 1 && n <= 16 && strikes >= 1 && strikes <= 100 && probe >= 1 && probe <= 100 && far >= 0 && far <= most
					if (New(n, strikes, probe, far) != nil) != may {
						t.Errorf("New(%d, %d, %d, %d) is nil: %v", n, strikes, probe, far, may)
					}
				}
			}
		}
	}
}

func TestExample(t *testing.T) { // the chapter's: nobody is out at first
	for n := 1; n <= 16; n++ {
		s := made(t, n, 3, 4, 100)
		for who := range n {
			if s.Out(who) {
				t.Errorf("of %d, collector %d is out", n, who)
			}
		}
	}
}

func TestOutAndGetOfNoCollector(t *testing.T) { // 12.2: true and ErrWho, below 0, at n and beyond
	for n := 1; n <= 16; n++ {
		s := made(t, n, 3, 4, 100)
		sets(t, s, all(n, up(2))...)
		for _, who := range slices.Concat(wild(), large(), []int64{int64(n), int64(n) + 1, 16, 17}) {
			if !s.Out(int(who)) {
				t.Errorf("of %d, Out(%d) is false", n, who)
			}
			if got, code := s.Get(int(who)); got != (api.Standing{}) || code != api.ErrWho {
				t.Errorf("of %d, Get(%d) is %v, %d", n, who, got, code)
			}
			refuses(t, s, int(who), up(1), api.ErrWho)
		}
	}
}

func TestFar(t *testing.T) { // 12.2: further than far strikes, just far doesn't, on either side
	for _, far := range []int64{0, 1, 2, 100, 1<<31 - 1, 1 << 31, 1<<32 - 1, 1 << 32, 1 << 39} {
		for _, m := range []int64{far + 1, far + 50, most / 2, most - far - 1} {
			if m-far-1 < 0 || m+far+1 > most {
				continue
			}
			for _, x := range []struct {
				v    int64
				want int
			}{{m, 1}, {m + far, 1}, {m - far, 1}, {m + far + 1, 3}, {m - far - 1, 3}, {m + far/2, 1}, {m - far/2, 1}, {0, 3}, {most, 3}} {
				s := made(t, 4, 9, 9, far)
				sets(t, s, up(2), up(2), up(2), up(2))
				closes(t, s, rows(row(m, x.v, m, m)), 4)
				stands(t, s, up(1), up(x.want), up(1), up(1))
			}
		}
	}
}

func TestFarAtItsEdges(t *testing.T) { // 12.2: with 0 whatever isn't the median strikes, with MaxValue nothing does
	for _, v := range []int64{0, 1, 500, 1 << 32, most - 1, most} {
		s := made(t, 3, 9, 9, 0)
		sets(t, s, up(2), up(2), up(2))
		closes(t, s, rows(row(500, v, 500)), 3)
		if v == 500 {
			stands(t, s, up(1), up(1), up(1))
		} else {
			stands(t, s, up(1), up(3), up(1))
		}
		for _, m := range []int64{0, 500, most} {
			s = made(t, 3, 9, 9, most)
			sets(t, s, up(2), up(2), up(2))
			closes(t, s, rows(row(m, v, m)), 3)
			stands(t, s, up(1), up(1), up(1))
		}
		s = made(t, 3, 9, 9, most-1)
		closes(t, s, rows(row(0, most, 0)), 3)
		closes(t, s, rows(row(most, 0, most)), 3)
		closes(t, s, rows(row(0, most-1, 0)), 3)
		stands(t, s, up(0), up(1), up(0))
	}
}

func TestFromTheMedian(t *testing.T) { // 12.2: not from the mean, of two middle ones the lesser (10.1), by hand
	from := all(4, up(1))
	after(t, from, rows(row(100, 100, 110, 1000)), 4, up(0), up(0), up(0), up(2))
	after(t, from, rows(row(100, 120, 110, 121)), 4, up(0), up(0), up(0), up(2))
	after(t, from, rows(row(100, 111, 112, 122)), 4, up(2), up(0), up(0), up(2))
	after(t, from, rows(row(10, 20, 30, 40)), 4, up(0), up(0), up(0), up(2))
	after(t, from, rows(row(40, 30, 20, 9)), 4, up(2), up(0), up(0), up(2))
	after(t, from, rows(row(100, none, 110, none)), 2, up(0), up(1), up(0), up(1))
	after(t, from, rows(row(100, none, 111, none)), 2, up(0), up(1), up(2), up(1))
	after(t, from, rows(row(none, none, none, 77)), 1, up(1), up(1), up(1), up(0))
	after(t, from, rows(row(0, most, 0, most)), 4, up(0), up(2), up(0), up(2))
	after(t, from, rows(row(most, most, 0, most)), 4, up(0), up(0), up(2), up(0))
}

func TestQuorum(t *testing.T) { // 12.2: with one sample fewer the metric says nothing, with just as many it does
	for heard := 0; heard <= 6; heard++ {
		for _, quorum := range []int{math.MinInt, -1 << 32, -5, -1, 0, 1, 2, 3, 4, 5, 6, 7, 16, 17, 1 << 31, 1 << 32, 1<<32 + 1, math.MaxInt} {
			values := slices.Repeat([]int64{none}, 6)
			want := all(6, up(2))
			for who := range heard {
				values[who] = 500
				if heard >= quorum {
					want[who] = up(1)
				}
			}
			if heard > 2 {
				values[1] = 700
				if heard >= quorum {
					want[1] = up(3)
				}
			}
			after(t, all(6, up(2)), rows(row(values...)), quorum, want...)
		}
	}
}

func TestQuorumOfThoseThatCount(t *testing.T) { // 12.2: neither who is out, nor who is no collector, makes one up
	nobody := func(l ...int) []api.Sample {
		r := row(500, 500, 500, 500)
		for _, who := range l {
			r = append(r, api.Sample{Who: who, Value: 500})
		}
		return r
	}
	from := []api.Standing{up(2), up(2), up(2), away(1)}
	lower := []api.Standing{up(1), up(1), up(1), away(2)}
	silent := []api.Standing{up(2), up(2), up(2), away(2)}
	after(t, from, rows(nobody()), 3, lower...)
	after(t, from, rows(nobody()), 4, silent...)
	after(t, from, rows(nobody(4, 5, 16, -1, math.MinInt, math.MaxInt, 1<<32, 1<<32+1, 256)), 3, lower...)
	after(t, from, rows(nobody(4, 5, 16, -1, math.MinInt, math.MaxInt, 1<<32, 1<<32+1, 256)), 4, silent...)
	after(t, from, rows(row(none, none, none, 500)), 1, silent...)
	after(t, from, rows(row(none, none, none, 500)), 0, silent...)
	after(t, from, rows(row(none, none, none, none, 500, 500)), math.MinInt, silent...)
}

func TestMedianOfThoseThatCount(t *testing.T) { // 12.2: neither who is out, nor who is no collector, moves it
	from := []api.Standing{up(2), up(2), away(0), away(3), up(2)}
	for _, v := range append(wild(), 0, 500, 511, 900, most) {
		r := row(500, 505, v, v, 900)
		for _, who := range []int{-1, 5, 6, 16, 256, 1 << 32, math.MinInt, math.MaxInt, 5, 5, 5, -1, -1} {
			r = append(r, api.Sample{Who: who, Value: v})
		}
		after(t, from, rows(r), 3, up(1), up(1), away(1), away(4), up(3))
		slices.Reverse(r)
		after(t, from, rows(r), 3, up(1), up(1), away(1), away(4), up(3))
	}
}

func TestWithoutAMedian(t *testing.T) { // 12.2: a value of theirs that may not be: the metric counts for nothing, neither clean nor struck
	from := []api.Standing{up(2), up(2), up(2), up(2), away(1)}
	for _, v := range wild() {
		for who := range 4 {
			values := []int64{500, 500, 500, 900, 500}
			values[who] = v
			after(t, from, rows(row(values...)), 1, up(2), up(2), up(2), up(2), away(2))
			after(t, from, rows(row(values...), row(500, none, 900, 500)), 3, up(1), up(2), up(3), up(1), away(2))
			after(t, from, rows(row(500, none, 900, 500), row(values...)), 3, up(1), up(2), up(3), up(1), away(2))
		}
		after(t, from, rows(row(500, 500, 900, none, v)), 3, up(1), up(1), up(3), up(2), away(2))
	}
}

func TestOneWithoutAMedianIsNotAskedOfOthers(t *testing.T) { // 12.2: each metric has its own
	for at := range 4 {
		l := rows(row(10, 10, 10), row(10, 10, 10), row(10, 10, 10), row(10, 10, 10))
		l[at] = row(-1, 10, 10)
		after(t, all(3, up(3)), l, 3, up(2), up(2), up(2))
		l[at] = row(10, 10, 21)
		after(t, all(3, up(3)), l, 3, up(2), up(2), up(4))
	}
}

func TestMoreThan1000Samples(t *testing.T) { // 12.2: of more that count there is no Median; of those that don't there may be any number
	long := func(n int, value int64) []api.Sample {
		l := row(500, 500, 900)
		for i := range n - len(l) {
			l = append(l, api.Sample{Who: i % 2, Value: value})
		}
		return l
	}
	from := []api.Standing{up(2), up(2), up(2), away(0)}
	for _, n := range []int{999, 1000} {
		after(t, from, rows(long(n, 500)), n, up(1), up(1), up(3), away(1))
		after(t, from, rows(long(n, 500)), n+1, up(2), up(2), up(2), away(1))
	}
	for _, n := range []int{1001, 1002, 2000, 70000} {
		after(t, from, rows(long(n, 500)), 3, up(2), up(2), up(2), away(1))
		after(t, from, rows(row(500, 500, 900), long(n, 500)), 3, up(1), up(1), up(3), away(1))
	}
	others := long(1000, 500)
	for i := range 3000 {
		others = append(others, api.Sample{Who: []int{3, -1, 4}[i%3], Value: int64(i) - 5})
	}
	after(t, from, rows(others), 1000, up(1), up(1), up(3), away(1))
	after(t, from, rows(others), 1001, up(2), up(2), up(2), away(1))
}

func TestSeveralMetrics(t *testing.T) { // 12.2: far in any strikes, once an epoch; clean is who is far in none
	near, off := row(500, 500, 500, 505), row(500, 500, 500, 600)
	from := all(4, up(2))
	for _, l := range [][][]api.Sample{rows(off), rows(off, near), rows(near, off), rows(off, off), rows(off, off, off, off), rows(near, near, off, near), rows(off, nil, near), rows(nil, nil, nil, off)} {
		after(t, from, l, 4, up(1), up(1), up(1), up(3))
	}
	for _, l := range [][][]api.Sample{rows(near), rows(near, near), rows(near, near, near, near), rows(nil, near, nil)} {
		after(t, from, l, 4, up(1), up(1), up(1), up(1))
	}
	after(t, from, rows(row(500, 500, 500, 600), row(600, 500, 500, 500), row(500, 5, 500, 500)), 4, up(3), up(3), up(1), up(3))
	after(t, from, rows(row(10, 10, 10, none), row(2000, none, 2000, 2000), row(none, 9, 9, 99)), 3, up(1), up(1), up(1), up(3))
}

func TestEachMetricHasItsQuorum(t *testing.T) { // 12.2: samples of one aren't another's, and far off without a quorum isn't struck
	from := all(4, up(2))
	after(t, from, rows(row(500, none, none, 900), row(500, none, 500, none), row(none, 500, none, 500)), 3, from...)
	after(t, from, rows(row(500, 500, 500, none), row(none, none, 500, 900)), 3, up(1), up(1), up(1), up(2))
	after(t, from, rows(row(none, none, 500, 900), row(500, 500, 500, none)), 3, up(1), up(1), up(1), up(2))
	after(t, from, rows(row(500, 500, none, 500), row(none, none, 500, 900)), 3, up(1), up(1), up(2), up(1))
	after(t, from, rows(row(none, none, 500, 900), row(500, 500, 900, none)), 3, up(1), up(1), up(3), up(2))
}

func TestMetricsAreToldByTheirRows(t *testing.T) { // 12.2: l is by metrics, however many, whatever else the samples tell
	l := rows(row(500, 500, 500, 600), row(7, 7, 7, 7), row(500, 500, 500, 500), row(3, 3, 3, 3), row(1, 99, 1, 1), row(6, 6, 6, 6))
	dice := rand.New(rand.NewPCG(12, 5))
	for range 50 {
		for _, r := range l {
			for i := range r {
				r[i].Metric, r[i].Epoch = int(wild()[dice.IntN(24)]), wild()[dice.IntN(24)]
			}
		}
		after(t, all(4, up(2)), l, 4, up(1), up(3), up(1), up(3))
	}
}

func TestSeveralSamplesOfOne(t *testing.T) { // 12.2: each counts, and one that is far strikes
	from := all(3, up(2))
	again := func(l []api.Sample, who int, value int64) []api.Sample {
		return append(l, api.Sample{Who: who, Value: value})
	}
	after(t, from, rows(again(row(500, 500, 500), 2, 900)), 4, up(1), up(1), up(3))
	after(t, from, rows(append(again(nil, 2, 900), row(500, 500, 500)...)), 4, up(1), up(1), up(3))
	after(t, from, rows(again(again(row(500, none, none), 0, 500), 0, 500)), 3, up(1), up(2), up(2))
	after(t, from, rows(again(again(row(500, 900, 900), 0, 500), 0, 500)), 5, up(1), up(3), up(3))
}

func TestAnEpochWithoutSamples(t *testing.T) { // 12.2: it says nothing, but who is out is there for one more
	from := []api.Standing{up(0), up(4), away(0), away(3), up(1)}
	for _, l := range [][][]api.Sample{nil, {}, {nil}, {{}, nil}, {nil, nil, nil, nil}, {{}, {}, {}, {}}} {
		for _, quorum := range []int{math.MinInt, -1, 0, 1, 3, math.MaxInt} {
			after(t, from, l, quorum, up(0), up(4), away(1), away(4), up(1))
		}
	}
}

func TestStruckCleanOrSilent(t *testing.T) { // 12.2: one more, one fewer if there is any, or as it is: at each number of strikes
	for _, limit := range []int{1, 2, 3, 7, 100} {
		for have := range limit {
			for _, x := range []struct{ value, change int64 }{{600, 1}, {500, -1}, {none, 0}} {
				s := made(t, 4, limit, 9, 10)
				sets(t, s, up(0), up(0), up(0), up(have))
				want, gone := up(max(0, have+int(x.change))), []int(nil)
				if want.Strikes == limit {
					want, gone = away(0), []int{3}
				}
				closes(t, s, rows(row(500, 500, 500, x.value)), 3, gone...)
				stands(t, s, up(0), up(0), up(0), want)
			}
		}
	}
}

func TestTheStrikeThatPutsOut(t *testing.T) { // 12.2: the last one, not the one before it; counted from the beginning
	for limit := 1; limit <= 100; limit++ {
		s := made(t, 5, limit, 9, 10)
		for i := 1; i < limit; i++ {
			closes(t, s, rows(row(500, 500, 489, 500, 500)), 5)
			stands(t, s, up(0), up(0), up(i), up(0), up(0))
		}
		closes(t, s, rows(row(500, 500, 511, 500, 500)), 5, 2)
		stands(t, s, up(0), up(0), away(0), up(0), up(0))
	}
}

func TestTheEpochThatLetsBackIn(t *testing.T) { // 12.2: the last one, not the one before it; then all is zero
	for probe := 1; probe <= 100; probe++ {
		s := made(t, 4, 1, probe, 10)
		closes(t, s, rows(row(500, 900, 500, 500)), 4, 1)
		for i := range probe {
			stands(t, s, up(0), away(i), up(0), up(0))
			closes(t, s, rows(row(500, []int64{500, 900, none}[i%3], 500, 500)), 3)
		}
		stands(t, s, all(4, up(0))...)
		closes(t, s, rows(row(500, 900, 500, 500)), 4, 1)
		stands(t, s, up(0), away(0), up(0), up(0))
	}
}

func TestEachLimitIsItsOwn(t *testing.T) { // 12.1, 12.2: n, strikes, probe and far aren't changed about
	s := made(t, 3, 2, 4, 50)
	for range 3 {
		closes(t, s, rows(row(500, 551, 450)), 3)
		stands(t, s, up(0), up(1), up(0))
		closes(t, s, rows(row(500, 551, 450)), 3, 1)
		for i := range 4 {
			stands(t, s, up(0), away(i), up(0))
			closes(t, s, nil, 3)
		}
		stands(t, s, up(0), up(0), up(0))
	}
	s = made(t, 2, 4, 1, 3)
	for i := range 3 {
		stands(t, s, up(0), up(i))
		closes(t, s, rows(row(500, 504)), 2)
	}
	closes(t, s, rows(row(500, 504)), 2, 1)
	stands(t, s, up(0), away(0))
	closes(t, s, rows(row(500, 504)), 2)
	stands(t, s, up(0), up(0))
}

func TestWhoIsPutOutIsToldByNumber(t *testing.T) { // 12.2: all of them, in whatever order they stand in their row; nobody else
	dice := rand.New(rand.NewPCG(12, 6))
	for range 300 {
		s := made(t, 16, 3, 9, 10)
		var gone []int
		from, want, values := all(16, up(0)), all(16, up(0)), make([]int64, 16)
		for who := range 16 {
			values[who] = 500
			if dice.IntN(3) == 0 && len(gone) < 7 { // 9 are left at least, and the median is theirs
				from[who], want[who], values[who] = up(2), away(0), []int64{0, 489, 511, most}[dice.IntN(4)]
				gone = append(gone, who)
			}
		}
		sets(t, s, from...)
		r := row(values...)
		dice.Shuffle(len(r), func(i, j int) { r[i], r[j] = r[j], r[i] })
		closes(t, s, rows(r), 16, gone...)
		stands(t, s, want...)
		closes(t, s, rows(r), 1)
	}
}

func TestAllOutAtOnce(t *testing.T) { // 12.2: there may be nobody left, and all come back
	s := made(t, 4, 1, 2, 0)
	closes(t, s, rows(row(1, 2, 2, 2), row(2, 1, 2, 2), row(2, 2, 1, 2), row(2, 2, 2, 1)), 4, 0, 1, 2, 3)
	stands(t, s, all(4, away(0))...)
	closes(t, s, rows(row(1, 2, 3, 4)), 1)
	stands(t, s, all(4, away(1))...)
	closes(t, s, rows(row(1, 2, 3, 4)), 1)
	stands(t, s, all(4, up(0))...)
}

func TestWhoGoesIsStillHeard(t *testing.T) { // 12.2: the medians are those of all that weren't out ahead of the epoch, and all are told ahead of the first change
	s := made(t, 3, 1, 3, 10)
	closes(t, s, rows(row(900, 500, 500), row(500, 500, 500)), 3, 0)
	stands(t, s, away(0), up(0), up(0))
	s = made(t, 5, 2, 3, 10)
	sets(t, s, up(1), up(1), up(1))
	closes(t, s, rows(row(100, 200, 300, 400, 500)), 5, 0, 1)
	stands(t, s, away(0), away(0), up(0), up(1), up(1))
	closes(t, s, rows(row(100, 200, 300, 400, 500)), 3, 4)
	stands(t, s, away(1), away(1), up(1), up(0), away(0))
}

func TestWhoComesBackIsNotYetHeard(t *testing.T) { // 12.2: it is out while that epoch ends; from the next one on it counts again
	s := made(t, 4, 1, 2, 10)
	sets(t, s, away(1))
	closes(t, s, rows(row(500, 500, none, none)), 2)
	stands(t, s, all(4, up(0))...)
	sets(t, s, away(1), up(0), up(0), up(0))
	closes(t, s, rows(row(900, 500, 500, 500)), 4)
	stands(t, s, all(4, up(0))...)
	closes(t, s, rows(row(900, 500, 500, 500)), 4, 0)
	stands(t, s, away(0), up(0), up(0), up(0))
}

func TestWhoIsOutIsNotHeard(t *testing.T) { // 12.2: whatever it says, it is there for one more, and no strike comes of it
	for _, v := range append(wild(), none, 0, 500, 511, most) {
		for c := range 4 {
			after(t, []api.Standing{up(1), up(1), up(1), away(c)}, rows(row(500, 500, 500, v), row(500, 900, 500, v)), 3, up(0), up(2), up(0), away(c+1))
		}
		after(t, []api.Standing{up(1), up(1), up(1), away(4)}, rows(row(500, 500, 500, v)), 3, up(0), up(0), up(0), up(0))
	}
}

func TestEachIsCountedByItself(t *testing.T) { // 12.2: at every place of n, and no other changes
	for n := 3; n <= 16; n++ {
		for who := range n {
			s := made(t, n, 2, 2, 10)
			want, values := all(n, up(0)), slices.Repeat([]int64{500}, n)
			values[who] = 511
			for i, gone := range [][]int{nil, {who}, nil, nil, nil} {
				closes(t, s, rows(row(values...)), n-1, gone...)
				want[who] = []api.Standing{up(1), away(0), away(1), up(0), up(1)}[i]
				stands(t, s, want...)
			}
		}
	}
}

func TestSet(t *testing.T) { // 12.2: each standing there is may be set, from each other one, and the others stay
	for _, x := range [][2]int{{1, 1}, {1, 3}, {3, 1}, {3, 5}, {100, 100}} {
		var l []api.Standing
		for _, i := range []int{0, 1, 2, 50, 98, 99} {
			if i < x[0] {
				l = append(l, up(i))
			}
			if i < x[1] {
				l = append(l, away(i))
			}
		}
		for _, a := range l {
			for _, b := range l {
				s := made(t, 3, x[0], x[1], 10)
				sets(t, s, a, b, a)
				stands(t, s, a, b, a)
				sets(t, s, b, a)
				stands(t, s, b, a, a)
			}
		}
	}
}

func TestSetBeyondTheEdges(t *testing.T) { // 12.2: ErrArg, and it stands as it stood
	for _, x := range [][2]int{{1, 1}, {1, 5}, {5, 1}, {3, 7}, {7, 3}, {99, 100}, {100, 99}, {100, 100}} {
		for _, from := range []api.Standing{up(0), up(x[0] - 1), away(0), away(x[1] - 1)} {
			s := made(t, 2, x[0], x[1], 10)
			sets(t, s, from, from)
			for _, v := range slices.Concat(wild(), large(), []int64{int64(max(x[0], x[1]))}) {
				for _, out := range []bool{false, true} {
					refuses(t, s, 1, api.Standing{Strikes: int(v), Out: out}, api.ErrArg)
					refuses(t, s, 1, api.Standing{Clean: int(v), Out: out}, api.ErrArg)
					refuses(t, s, 1, api.Standing{Strikes: int(v), Clean: -int(v), Out: out}, api.ErrArg)
				}
			}
			refuses(t, s, 0, up(x[0]), api.ErrArg)
			refuses(t, s, 0, away(x[1]), api.ErrArg)
		}
	}
}

func TestSetOfEachStanding(t *testing.T) { // 12.2: each count within its own limit, and one of both is 0
	for strikes := 1; strikes <= 5; strikes++ {
		for probe := 1; probe <= 5; probe++ {
			s, w := made(t, 2, strikes, probe, 10), &twin{n: 2, strikes: strikes, probe: probe}
			for a := -2; a < 8; a++ {
				for b := -2; b < 8; b++ {
					for _, out := range []bool{false, true} {
						by := api.Standing{Strikes: a, Clean: b, Out: out}
						if code := w.set(1, by); code != api.OK {
							refuses(t, s, 1, by, code)
						} else {
							sets(t, s, up(0), by)
						}
					}
				}
			}
		}
	}
}

func TestWhichErrorIsTold(t *testing.T) { // 12.2, rule 4: first that there is no such collector
	s := made(t, 4, 3, 3, 10)
	for _, who := range []int{-1, 4, 5, 16, math.MinInt, math.MaxInt} {
		for _, by := range []api.Standing{{}, up(2), up(3), up(-1), away(2), away(3), {Strikes: 1, Clean: 1}, {Strikes: 1, Out: true}, {Clean: 1}} {
			refuses(t, s, who, by, api.ErrWho)
		}
	}
	for _, by := range []api.Standing{up(3), up(-1), away(3), away(-1), {Strikes: 1, Clean: 1}, {Strikes: 1, Clean: 1, Out: true}, {Strikes: 1, Out: true}, {Clean: 1}} {
		refuses(t, s, 0, by, api.ErrArg)
		refuses(t, s, 3, by, api.ErrArg)
	}
}

func TestWhatWasSetGoesOn(t *testing.T) { // 12.2: a Score that is set as another one tells goes on as it does
	dice := rand.New(rand.NewPCG(12, 4))
	for range 100 {
		a := made(t, 6, 3, 4, 20)
		for range 40 {
			l, quorum := thrown(dice, 6, 2), dice.IntN(5)
			a.Close(l, quorum)
			b := made(t, 6, 3, 4, 20)
			sets(t, b, a.All()...)
			l, quorum = thrown(dice, 6, 2), dice.IntN(5)
			closes(t, b, copied(l), quorum, a.Close(l, quorum)...)
			stands(t, b, a.All()...)
		}
	}
}

// thrown is an epoch of m metrics near 500, of which some samples are far off, some missing, and few may not be.
func thrown(dice *rand.Rand, n, m int) [][]api.Sample {
	l := make([][]api.Sample, m)
	for i := range l {
		for who := range n {
			v := 480 + dice.Int64N(41)
			switch dice.IntN(12) {
			case 0:
				continue
			case 1, 2:
				v = dice.Int64N(1000)
			case 3:
				v = []int64{0, most, 1 << 32}[dice.IntN(3)]
			}
			l[i] = append(l[i], api.Sample{Who: who, Metric: i, Value: v})
		}
		if len(l[i]) > 0 && dice.IntN(20) == 0 {
			x := &l[i][dice.IntN(len(l[i]))]
			if dice.IntN(2) == 0 {
				x.Value = wild()[dice.IntN(len(wild()))]
			} else {
				x.Who = []int{-1, n, n + 1, math.MinInt, math.MaxInt, 0}[dice.IntN(6)]
			}
		}
		dice.Shuffle(len(l[i]), func(a, b int) { l[i][a], l[i][b] = l[i][b], l[i][a] })
	}
	return l
}

func TestCallsInAnyOrder(t *testing.T) { // 12.1, 12.2, T1: as the second telling, that keeps all that ever was
	dice := rand.New(rand.NewPCG(12, 1))
	for range 150 {
		w := &twin{n: 1 + dice.IntN(16), strikes: 1 + dice.IntN(4), probe: 1 + dice.IntN(4), far: []int64{0, 10, 20, 40, 500, most}[dice.IntN(6)]}
		s := made(t, w.n, w.strikes, w.probe, w.far)
		for range 60 {
			if dice.IntN(5) == 0 {
				who := dice.IntN(w.n+2) - 1
				by := api.Standing{Strikes: dice.IntN(w.strikes+2) - 1, Clean: dice.IntN(w.probe+2) - 1, Out: dice.IntN(2) == 0}
				if dice.IntN(2) == 0 && by.Out {
					by.Strikes = 0
				} else if dice.IntN(2) == 0 {
					by.Clean = 0
				}
				if got, want := s.Set(who, by), w.set(who, by); got != want {
					t.Fatalf("Set(%d, %v) is %d, not %d", who, by, got, want)
				}
			} else {
				l, quorum := thrown(dice, w.n, dice.IntN(5)), dice.IntN(w.n+2)
				closes(t, s, l, quorum, w.close(l, quorum)...)
			}
			l, _ := w.told()
			stands(t, s, l...)
		}
	}
}

// honest is a setup as conf lets it: n at least 3 f + 1, a quorum from 2 f + 1 to n.
type honest struct{ n, f, quorum int }

// setups are all of them.
func setups() []honest {
	var l []honest
	for n := 1; n <= 16; n++ {
		for f := 0; 3*f+1 <= n; f++ {
			for quorum := 2*f + 1; quorum <= n; quorum++ {
				l = append(l, honest{n, f, quorum})
			}
		}
	}
	return l
}

// lie is what one that lies says: anything, or nothing.
func lie(dice *rand.Rand, base, far int64) int64 {
	switch dice.IntN(12) {
	case 0:
		return none
	case 1:
		return 0
	case 2:
		return most
	case 3:
		return base + far*(dice.Int64N(7)-3)
	case 4:
		return base + far + 1
	case 5:
		return wild()[dice.IntN(len(wild()))]
	}
	return dice.Int64N(most + 1)
}

func TestWhoStaysNearIsNeverPutOut(t *testing.T) { // 12.3, T5: those that don't lie are within far of one another, and at most f others say anything whatever
	dice := rand.New(rand.NewPCG(12, 3))
	for _, x := range setups() {
		far := []int64{0, 1, 100, 1 << 33}[dice.IntN(4)]
		s := made(t, x.n, 1, 1+dice.IntN(3), far) // the first strike would put out
		liars := dice.Perm(x.n)[:x.f]
		for range 60 {
			l := make([][]api.Sample, 1+dice.IntN(4))
			for m := range l {
				base := far*4 + dice.Int64N(1<<20)
				values := make([]int64, x.n)
				for who := range values {
					values[who] = base + dice.Int64N(far+1)
					if dice.IntN(5) == 0 {
						values[who] = none
					}
					if slices.Contains(liars, who) {
						values[who] = lie(dice, base, far)
					}
				}
				l[m] = row(values...)
			}
			for _, who := range s.Close(l, x.quorum) {
				if !slices.Contains(liars, who) {
					t.Fatalf("of %+v, that lie %v, collector %d was put out", x, liars, who)
				}
			}
			for who, one := range s.All() {
				if !slices.Contains(liars, who) && one != (api.Standing{}) {
					t.Fatalf("of %+v, that lie %v, collector %d stands as %v", x, liars, who, one)
				}
			}
		}
	}
}

func TestWhoStaysNearInAllSmallEpochs(t *testing.T) { // 12.3: four of whom one lies, all that they can say from 0 to 6, or nothing, with a far of 2
	says := []int64{0, 1, 2, 3, 4, 5, 6, none}
	for code := range 8 * 8 * 8 * 8 {
		v := []int64{says[code%8], says[code/8%8], says[code/64%8], says[code/512]}
		for liar := range v {
			others := slices.DeleteFunc(slices.Concat(v[:liar], v[liar+1:]), func(n int64) bool { return n == none })
			if len(others) > 0 && slices.Max(others)-slices.Min(others) > 2 {
				continue
			}
			s := made(t, 4, 1, 1, 2)
			for _, who := range s.Close(rows(row(v...)), 3) {
				if who != liar {
					t.Fatalf("of %v, where %d lies, %d was put out", v, liar, who)
				}
			}
		}
	}
}

func TestWhoIsNearTheMedianIsNeverPutOut(t *testing.T) { // 12.3: whatever all others say, and however few are heard
	dice := rand.New(rand.NewPCG(12, 7))
	for range 3000 {
		n := 1 + dice.IntN(16)
		s, w := made(t, n, 1, 2, 15), &twin{n: n, far: 15}
		sets(t, s, all(n, up(0))...)
		for range 10 {
			l, quorum := thrown(dice, n, 1+dice.IntN(4)), dice.IntN(n+1)
			words := w.said(s.All(), event{rows: l, quorum: quorum})
			for _, who := range s.Close(l, quorum) {
				if words[who] != bad {
					t.Fatalf("%d was put out, and was near in %v", who, l)
				}
			}
		}
	}
}

func TestWhoIsMoreOftenNearThanFar(t *testing.T) { // 12.2, 12.3: strikes are forgiven one by one, so such a one is never put out
	s := made(t, 4, 2, 9, 10)
	for range 500 {
		closes(t, s, rows(row(500, 500, 500, 900)), 3)
		stands(t, s, up(0), up(0), up(0), up(1))
		closes(t, s, rows(row(500, 500, 500, none)), 3)
		stands(t, s, up(0), up(0), up(0), up(1))
		closes(t, s, rows(row(500, 500, 500, 510)), 3)
		stands(t, s, up(0), up(0), up(0), up(0))
	}
	closes(t, s, rows(row(500, 500, 500, 900)), 3)
	closes(t, s, rows(row(500, 500, 500, none)), 3)
	closes(t, s, rows(row(500, 500, 500, 900)), 3, 3)
}

func TestInWhateverOrderSamplesStand(t *testing.T) { // 12.2: who says what tells it, not where it stands
	dice := rand.New(rand.NewPCG(12, 8))
	for range 300 {
		l := thrown(dice, 7, 3)
		a, b := made(t, 7, 2, 2, 15), made(t, 7, 2, 2, 15)
		for range 5 {
			turned := copied(l)
			slices.Reverse(turned)
			for _, r := range turned {
				slices.Reverse(r)
			}
			closes(t, b, turned, 4, a.Close(l, 4)...)
			stands(t, b, a.All()...)
		}
	}
}

func TestWhatWasToldIsTheCallers(t *testing.T) { // rule 2: the Score stays when it is changed, and no answer shares with another
	s := made(t, 4, 1, 3, 10)
	sets(t, s, away(2), up(0), up(0), up(0))
	first, second := s.All(), s.All()
	for i := range first[:cap(first)] {
		first[:cap(first)][i] = api.Standing{Strikes: -7, Clean: -7, Out: i%2 == 1}
	}
	stands(t, s, away(2), up(0), up(0), up(0))
	if !slices.Equal(second, s.All()) {
		t.Errorf("one answer was changed with another: %v", second)
	}
	gone := s.Close(rows(row(none, 500, 500, 900)), 3)
	for i := range gone[:cap(gone)] {
		gone[:cap(gone)][i] = -7
	}
	stands(t, s, up(0), up(0), up(0), away(0))
	closes(t, s, rows(row(900, 500, 500, none)), 3, 0)
	stands(t, s, away(0), up(0), up(0), away(1))
	if !slices.Equal(second, []api.Standing{away(2), up(0), up(0), up(0)}) {
		t.Errorf("what was told changed with the Score: %v", second)
	}
}

func TestWhatIsHandedInIsNotKept(t *testing.T) { // rule 2: it may be changed behind the call, and stays by it, with what stands behind it
	s := made(t, 4, 2, 3, 10)
	whole := row(500, 500, 500, 900, 7, 8, 9)
	l := [][]api.Sample{whole[:4], whole[:3:3], nil, row(1)}
	was := copied([][]api.Sample{whole})[0]
	closes(t, s, l[:2], 3)
	if !slices.Equal(whole, was) || l[2] != nil || !slices.Equal(l[3], row(1)) {
		t.Errorf("what stands behind what was handed in is %v, %v", whole, l)
	}
	stands(t, s, up(0), up(0), up(0), up(1))
	for i := range whole {
		whole[i] = api.Sample{Who: 2, Value: most}
	}
	l[0], l[1] = nil, nil
	stands(t, s, up(0), up(0), up(0), up(1))
	closes(t, s, rows(row(500, 500, 500, 900)), 3, 3)
}

func TestOfNil(t *testing.T) { // 12.2: true, nothing, ErrArg
	var s *Score
	for _, v := range append(wild(), 0, 1, 3, 15, 16) {
		who := int(v)
		if !s.Out(who) {
			t.Errorf("Out(%d) is false", who)
		}
		if got, code := s.Get(who); got != (api.Standing{}) || code != api.ErrArg {
			t.Errorf("Get(%d) is %v, %d", who, got, code)
		}
		for _, by := range []api.Standing{{}, up(1), away(1), {Strikes: -1}, {Strikes: 1, Clean: 1}} {
			if code := s.Set(who, by); code != api.ErrArg {
				t.Errorf("Set(%d, %v) is %d", who, by, code)
			}
		}
		for _, l := range [][][]api.Sample{nil, {nil}, rows(row(500, 500, 900)), rows(row(v, v, v))} {
			if gone := s.Close(l, who); len(gone) != 0 {
				t.Errorf("Close is %v", gone)
			}
		}
	}
	if l := s.All(); len(l) != 0 {
		t.Errorf("All is %v", l)
	}
}

func TestOfOneThatNewDidNotMake(t *testing.T) { // rule 1: it has no collectors
	s := &Score{}
	for range 3 {
		closes(t, s, rows(row(500, 500, 900)), 0)
		refuses(t, s, 0, api.Standing{}, api.ErrWho)
		stands(t, s)
	}
}

func TestTwoScores(t *testing.T) { // rule 3: each has its own
	a, b := made(t, 4, 2, 2, 10), made(t, 4, 2, 2, 10)
	closes(t, a, rows(row(500, 500, 500, 900)), 3)
	stands(t, b, all(4, up(0))...)
	closes(t, b, rows(row(900, 500, 500, 500)), 3)
	closes(t, b, rows(row(900, 500, 500, 500)), 3, 0)
	stands(t, a, up(0), up(0), up(0), up(1))
	stands(t, b, away(0), up(0), up(0), up(0))
}

func TestTheSameEachTime(t *testing.T) { // rule 3: the same calls give the same answers, whatever others do with their Scores
	dice := rand.New(rand.NewPCG(12, 9))
	var past [][][]api.Sample
	for range 30 {
		past = append(past, thrown(dice, 9, 3))
	}
	w := &twin{n: 9, strikes: 2, probe: 3, far: 15}
	for _, l := range past {
		w.close(l, 5)
	}
	want, _ := w.told()
	var all sync.WaitGroup
	for range 8 {
		all.Go(func() {
			for range 20 {
				s := New(9, 2, 3, 15)
				for _, l := range past {
					s.Close(l, 5)
				}
				if !slices.Equal(s.All(), want) {
					t.Error("what is told hangs on more than the calls")
				}
			}
		})
	}
	all.Wait()
}

func TestAskedByManyAtOnce(t *testing.T) { // rule 3: what only tells may be asked at one time
	s := made(t, 4, 3, 3, 10)
	l := []api.Standing{up(2), away(1), up(0), away(2)}
	sets(t, s, l...)
	var all sync.WaitGroup
	for range 8 {
		all.Go(func() {
			for range 100 {
				one, code := s.Get(1)
				if !slices.Equal(s.All(), l) || one != l[1] || code != api.OK || s.Out(0) || !s.Out(3) {
					t.Error("one that was asked by many told something else")
				}
			}
		})
	}
	all.Wait()
}
