package law

import (
	"math"
	"math/rand/v2"
	"slices"
	"sort"
	"sync"
	"testing"

	"quorumite/api"
	"quorumite/conf"
)

const (
	most    = api.MaxValue
	room    = api.MaxReplicas
	million = 1000000
)

// part is a part of a configuration, with what it may be in the default one and what it may not.
type part struct {
	name        string
	put         func(c *api.Conf, n int64)
	may, mayNot []int64
}

// parts are all of them that conf.Wrong names, and the seed.
func parts() []part {
	return []part{
		{"n", func(c *api.Conf, n int64) { c.N = int(n) }, []int64{4, 5, 16}, []int64{3, 0, 17}},
		{"f", func(c *api.Conf, n int64) { c.F = int(n) }, []int64{0, 1}, []int64{-1, 2}},
		{"m", func(c *api.Conf, n int64) { c.M = int(n) }, []int64{1}, []int64{0, 2, 4, 5}},
		{"quorum", func(c *api.Conf, n int64) { c.Quorum = int(n) }, []int64{3, 4}, []int64{2, 5, 0}},
		{"fresh", func(c *api.Conf, n int64) { c.Fresh = int(n) }, []int64{1, 8}, []int64{0, 9}},
		{"grace", func(c *api.Conf, n int64) { c.Grace = int(n) }, []int64{1, 100}, []int64{0, 101}},
		{"window", func(c *api.Conf, n int64) { c.Window = int(n) }, []int64{1, 64}, []int64{0, 65}},
		{"target of 0", func(c *api.Conf, n int64) { c.Target[0] = n }, []int64{1, most}, []int64{0, -1, most + 1}},
		{"target of 1", func(c *api.Conf, n int64) { c.Target[1] = n }, []int64{0}, []int64{1, -1, 1000}},
		{"target of 3", func(c *api.Conf, n int64) { c.Target[3] = n }, []int64{0}, []int64{1, -1, most}},
		{"tol", func(c *api.Conf, n int64) { c.Tol = int(n) }, []int64{0, 1000}, []int64{-1, 1001}},
		{"min", func(c *api.Conf, n int64) { c.Min = int(n) }, []int64{1, 2, 100}, []int64{0, 101, room + 1}},
		{"max", func(c *api.Conf, n int64) { c.Max = int(n) }, []int64{1, room}, []int64{0, room + 1}},
		{"calmup", func(c *api.Conf, n int64) { c.CalmUp = int(n) }, []int64{0, 60}, []int64{-1, 61}},
		{"calmdown", func(c *api.Conf, n int64) { c.CalmDown = int(n) }, []int64{0, 60}, []int64{-1, 61}},
		{"podsup", func(c *api.Conf, n int64) { c.PodsUp = int(n) }, []int64{1, 1000}, []int64{0, 1001}},
		{"pctup", func(c *api.Conf, n int64) { c.PctUp = int(n) }, []int64{1, 1000}, []int64{0, 1001}},
		{"podsdown", func(c *api.Conf, n int64) { c.PodsDown = int(n) }, []int64{1, 1000}, []int64{0, 1001}},
		{"pctdown", func(c *api.Conf, n int64) { c.PctDown = int(n) }, []int64{1, 100}, []int64{0, 101}},
		{"period", func(c *api.Conf, n int64) { c.Period = int(n) }, []int64{1, 60}, []int64{0, 61}},
		{"far", func(c *api.Conf, n int64) { c.Far = n }, []int64{0, most}, []int64{-1, most + 1}},
		{"strikes", func(c *api.Conf, n int64) { c.Strikes = int(n) }, []int64{1, 100}, []int64{0, 101}},
		{"probe", func(c *api.Conf, n int64) { c.Probe = int(n) }, []int64{1, 100}, []int64{0, 101}},
		{"sectors", func(c *api.Conf, n int64) { c.Sectors = int(n) }, []int64{64, 4096}, []int64{63, 4097}},
		{"seed", func(c *api.Conf, n int64) { c.Seed = uint64(n) }, []int64{0, 1, -1, math.MinInt64}, nil},
	}
}

// wildValues are values that may not be: next to those that may, at the ends of 64 bits, and where a smaller kind would take them for others.
func wildValues() []int64 {
	return []int64{-1, -2, -1000, -1 << 31, -1 << 32, -1<<32 + 1000, -1 << 40, -1 << 61, math.MinInt64 + 1, math.MinInt64, most + 1, most + 2, 1 << 41, 1<<48 + 1000, 1 << 61, 1 << 62, math.MaxInt64 / 1000, math.MaxInt64 - 1, math.MaxInt64}
}

// tameValues are values that may be, at both ends, about a band and where a smaller kind would end.
func tameValues() []int64 {
	return []int64{0, 1, 2, 500, 899, 900, 901, 999, 1000, 1001, 1099, 1100, 1101, 1500, 2000, 65535, 1 << 31, 1 << 32, most - 1, most}
}

// wildCounts are numbers that no count may be.
func wildCounts() []int {
	return []int{0, -1, -4, -room, -1 << 31, -1 << 32, -1<<32 + 4, math.MinInt + 1, math.MinInt, room + 1, 65536 + 4, 1 << 31, 1 << 32, 1<<32 + 4, 1 << 62, math.MaxInt - 1, math.MaxInt}
}

// with is the default with some parts changed.
func with(change func(c *api.Conf)) api.Conf {
	c := conf.Default()
	change(&c)
	return c
}

// free is a configuration by which the count is what is wanted, as far as that is one to all: neither Calm nor Policy holds anything back from a count that is up to a thousand.
func free() api.Conf {
	return with(func(c *api.Conf) {
		c.Max = room
		c.CalmDown = 0
		c.PodsUp, c.PctUp, c.PodsDown, c.PctDown, c.Period = 1000, 1000, 1000, 100, 1
	})
}

// targets is c with as many metrics as there are targets here.
func targets(c api.Conf, l ...int64) api.Conf {
	c.M, c.Target = len(l), [4]int64{}
	copy(c.Target[:], l)
	return c
}

// made is a Law of which it is known that it may be.
func made(t *testing.T, c api.Conf, first int) *Law {
	t.Helper()
	l := New(c, first)
	if l == nil {
		t.Fatalf("New(%+v, %d) is nil", c, first)
	}
	return l
}

// stands asks that the Law tells this count, these wants and these counts.
func stands(t *testing.T, l *Law, count int, wants, counts []int) {
	t.Helper()
	if n := l.Count(); n != count {
		t.Fatalf("Count is %d, not %d", n, count)
	}
	if all := l.Calm().All(); !slices.Equal(all, wants) {
		t.Fatalf("Calm keeps %v, not %v", all, wants)
	}
	if all := l.Policy().All(); !slices.Equal(all, counts) {
		t.Fatalf("Policy keeps %v, not %v", all, counts)
	}
}

// gives asks that Next tells these, and that Count is then the count.
func gives(t *testing.T, l *Law, values []int64, count, want int) {
	t.Helper()
	was := l.Count()
	n, w, code := l.Next(values)
	if n != count || w != want || code != api.OK {
		t.Fatalf("Next(%v) of %d is %d, %d, %d, not %d, %d", values, was, n, w, code, count, want)
	}
	if n := l.Count(); n != count {
		t.Fatalf("Count behind Next(%v) is %d, not %d", values, n, count)
	}
}

// holds asks that Hold tells the count that there was.
func holds(t *testing.T, l *Law) {
	t.Helper()
	was := l.Count()
	if n := l.Hold(); n != was || l.Count() != was {
		t.Fatalf("Hold of %d is %d, and Count %d", was, n, l.Count())
	}
}

// refuses asks that Next doesn't take the values, and that nothing changes by it.
func refuses(t *testing.T, l *Law, values []int64) {
	t.Helper()
	count, wants, counts := l.Count(), l.Calm().All(), l.Policy().All()
	if n, w, code := l.Next(values); n != 0 || w != 0 || code != api.ErrArg {
		t.Fatalf("Next(%v) is %d, %d, %d", values, n, w, code)
	}
	stands(t, l, count, wants, counts)
}

// told is a second telling of a Law: it keeps all wants and all counts that ever were, the first one too.
type told struct {
	c             api.Conf
	wants, counts []int
}

// begun is a second telling that has just begun.
func begun(c api.Conf, first int) *told { return &told{c: c, counts: []int{first}} }

// count is Count.
func (o *told) count() int { return o.counts[len(o.counts)-1] }

// last is the last n of l, or all if they are fewer.
func last(l []int, n int) []int {
	if len(l) > n {
		return l[len(l)-n:]
	}
	return l
}

// wanted is what one metric wants: by how far it is from its target, and by trying how many are enough.
func (o *told) wanted(value, target int64) int {
	gap := value - target
	if gap < 0 {
		gap = -gap
	}
	if 1000*gap <= target*int64(o.c.Tol) {
		return o.count()
	}
	return sort.Search(million, func(n int) bool { return int64(n)*target >= int64(o.count())*value })
}

// fair is whether the values may be.
func (o *told) fair(values []int64) bool {
	return len(values) == o.c.M && !slices.ContainsFunc(values, func(v int64) bool { return v < 0 || v > 1099511627776 })
}

// calmed is what is left of the wants: more than there are only as far as all of late want more, fewer only as far as all of late want fewer.
func (o *told) calmed() int {
	if n := slices.Min(last(o.wants, o.c.CalmUp+1)); n > o.count() {
		return n
	}
	if n := slices.Max(last(o.wants, o.c.CalmDown+1)); n < o.count() {
		return n
	}
	return o.count()
}

// reach is how few and how many there may be a period behind base, by trying.
func reach(c api.Conf, base int) (int, int) {
	high := sort.Search(1<<20, func(n int) bool { return n-base >= c.PodsUp && 100*(n-base) >= base*c.PctUp })
	gone := sort.Search(base, func(n int) bool { return n >= c.PodsDown && 100*n >= base*c.PctDown })
	return max(base-gone, c.Min), min(high, c.Max)
}

// next is Next of values that may be.
func (o *told) next(values []int64) (int, int) {
	want := 0
	for i, v := range values {
		want = max(want, o.wanted(v, o.c.Target[i]))
	}
	o.wants = append(o.wants, want)
	n := o.calmed()
	low, high := reach(o.c, last(o.counts, o.c.Period)[0])
	switch {
	case n > high:
		n = high
	case n < low:
		n = low
	}
	o.counts = append(o.counts, n)
	return n, want
}

// hold is Hold.
func (o *told) hold() { o.counts = append(o.counts, o.count()) }

// agrees asks that l stands as the second telling does.
func (o *told) agrees(t *testing.T, l *Law) {
	t.Helper()
	stands(t, l, o.count(), last(o.wants, max(o.c.CalmUp, o.c.CalmDown)+1), last(o.counts, o.c.Period))
}

// goes gives both the values, which may be refused, and asks that they agree.
func (o *told) goes(t *testing.T, l *Law, values []int64) {
	t.Helper()
	if o.fair(values) {
		n, want := o.next(values)
		gives(t, l, values, n, want)
	} else {
		refuses(t, l, values)
	}
	o.agrees(t, l)
}

// stays lets both hold, and asks that they agree.
func (o *told) stays(t *testing.T, l *Law) {
	t.Helper()
	o.hold()
	holds(t, l)
	o.agrees(t, l)
}

// thrownFrom is a number from low to high, often an end or near it.
func thrownFrom(dice *rand.Rand, low, high int) int {
	switch dice.IntN(6) {
	case 0:
		return low
	case 1:
		return high
	case 2:
		return min(high, low+dice.IntN(10))
	}
	return low + dice.IntN(high-low+1)
}

// thrownConf is a configuration that may be.
func thrownConf(dice *rand.Rand) api.Conf {
	c := conf.Default()
	var l []int64
	for range 1 + dice.IntN(4) {
		l = append(l, max(thrownValue(dice), 1))
	}
	c = targets(c, l...)
	c.Tol = thrownFrom(dice, 0, 1000)
	if dice.IntN(2) == 0 {
		c.Tol = dice.IntN(200)
	}
	c.Min, c.Max = thrownFrom(dice, 1, room), thrownFrom(dice, 1, room)
	if dice.IntN(2) == 0 {
		c.Min, c.Max = 1+dice.IntN(5), 20+dice.IntN(500)
	}
	c.Min, c.Max = min(c.Min, c.Max), max(c.Min, c.Max)
	c.CalmUp, c.CalmDown = thrownWindow(dice), thrownWindow(dice)
	c.PodsUp, c.PctUp = thrownFrom(dice, 1, 1000), thrownFrom(dice, 1, 1000)
	c.PodsDown, c.PctDown = thrownFrom(dice, 1, 1000), thrownFrom(dice, 1, 100)
	if dice.IntN(2) == 0 {
		c.PodsUp, c.PctUp, c.PodsDown, c.PctDown = 1+dice.IntN(9), 1+dice.IntN(100), 1+dice.IntN(9), 1+dice.IntN(50)
	}
	c.Period = 1 + thrownWindow(dice)%60
	return c
}

// thrownWindow is a window of Calm, mostly a short one.
func thrownWindow(dice *rand.Rand) int {
	if dice.IntN(4) == 0 {
		return thrownFrom(dice, 0, 60)
	}
	return dice.IntN(5)
}

// thrownValue is a value that may be, of any size.
func thrownValue(dice *rand.Rand) int64 {
	switch dice.IntN(4) {
	case 0:
		return dice.Int64N(2000)
	case 1:
		return tameValues()[dice.IntN(len(tameValues()))]
	case 2:
		return dice.Int64N(1 << (1 + dice.IntN(40)))
	}
	return dice.Int64N(most + 1)
}

// thrownValues are values that may be, often near the targets or at the ends of their bands.
func thrownValues(dice *rand.Rand, c api.Conf) []int64 {
	var l []int64
	for _, target := range c.Target[:c.M] {
		value := thrownValue(dice)
		switch dice.IntN(8) {
		case 0:
			value = target
		case 1:
			value = target*int64(1000-c.Tol)/1000 + dice.Int64N(5) - 2
		case 2:
			value = target*int64(1000+c.Tol)/1000 + dice.Int64N(5) - 2
		case 3, 4, 5:
			value = dice.Int64N(2*target + 1)
		}
		l = append(l, min(max(value, 0), most))
	}
	return l
}

// thrownWrong are values that may not be: too few, too many, or one of them beyond.
func thrownWrong(dice *rand.Rand, c api.Conf) []int64 {
	l := thrownValues(dice, c)
	switch dice.IntN(3) {
	case 0:
		return l[:dice.IntN(len(l))]
	case 1:
		return append(l, thrownValues(dice, c)...)
	}
	l[dice.IntN(len(l))] = wildValues()[dice.IntN(len(wildValues()))]
	return l
}

func TestExamples(t *testing.T) { // the chapter's, and the document's fifth to seventh
	l := made(t, conf.Default(), 4)
	gives(t, l, []int64{1000}, 4, 4)
	gives(t, made(t, conf.Default(), 4), []int64{1500}, 6, 6)
	gives(t, made(t, conf.Default(), 4), []int64{1100}, 4, 4)
	gives(t, made(t, conf.Default(), 4), []int64{most}, 8, million)
	l = made(t, with(func(c *api.Conf) { c.CalmDown = 1 }), 5)
	gives(t, l, []int64{1000}, 5, 5)
	gives(t, l, []int64{400}, 5, 2)
}

// takes asks whether New takes c, whatever the first count is.
func takes(t *testing.T, c api.Conf, is bool) {
	t.Helper()
	if conf.May(c) != is {
		t.Fatalf("the test and conf aren't at one of %+v", c)
	}
	for _, first := range append(wildCounts(), c.Min-1, c.Min, c.Max, c.Max+1, 1, 4, 50, 100, 101, room) {
		l := New(c, first)
		if may := is && first >= c.Min && first <= c.Max; (l != nil) != may {
			t.Errorf("New(%+v, %d): there is a Law: %v", c, first, l != nil)
		}
		if l != nil {
			stands(t, l, first, nil, []int{first})
		}
	}
}

func TestNewOfEachPart(t *testing.T) { // 16.1: each at its edges and beyond, alone
	takes(t, conf.Default(), true)
	takes(t, api.Conf{}, false)
	for _, p := range parts() {
		for _, n := range p.may {
			takes(t, with(func(c *api.Conf) { p.put(c, n) }), true)
		}
		wild := p.mayNot
		if wild != nil {
			wild = append(wild, math.MinInt64, math.MaxInt64)
		}
		for _, n := range wild {
			takes(t, with(func(c *api.Conf) { p.put(c, n) }), false)
			c := targets(conf.Default(), 5, 6, 7, 8)
			if p.put(&c, n); !conf.May(c) {
				takes(t, c, false)
			}
		}
	}
}

func TestNewOfEachMetric(t *testing.T) { // 16.1: as many targets as metrics
	takes(t, targets(conf.Default(), 1, most), true)
	takes(t, targets(conf.Default(), 1, 2, 3), true)
	takes(t, targets(conf.Default(), 4, 3, 2, 1), true)
	takes(t, targets(conf.Default(), 4, 3, 0, 1), false)
	takes(t, targets(conf.Default(), 4, 3, 2, most+1), false)
	takes(t, targets(conf.Default(), 4, -3, 2), false)
	for m := range 7 {
		c := targets(conf.Default(), 4, 3, 2)
		c.M = m
		takes(t, c, m == 3)
	}
}

func TestNewAnywhere(t *testing.T) { // 16.1: as conf.May and the ends tell
	dice := rand.New(rand.NewPCG(16, 1))
	for range 500 {
		c := thrownConf(dice)
		takes(t, c, true)
		for range 1 + dice.IntN(2) {
			p := parts()[dice.IntN(len(parts())-1)]
			p.put(&c, p.mayNot[dice.IntN(len(p.mayNot))])
		}
		takes(t, c, conf.May(c))
	}
}

func TestFirst(t *testing.T) { // 16.1: at Min, at Max and one beyond on either side; it is the count
	for _, x := range [][2]int{{1, 100}, {1, 1}, {5, 5}, {5, 9}, {1, room}, {room, room}, {room - 1, room}} {
		c := with(func(c *api.Conf) { c.Min, c.Max = x[0], x[1] })
		for _, first := range []int{x[0], min(x[0]+1, x[1]), (x[0] + x[1]) / 2, x[1]} {
			l := made(t, c, first)
			stands(t, l, first, nil, []int{first})
			gives(t, l, []int64{1000}, first, first)
			stands(t, l, first, []int{first}, []int{first, first})
		}
		for _, first := range append(wildCounts(), x[0]-1, x[1]+1, x[0]-2, x[1]+2) {
			if New(c, first) != nil {
				t.Errorf("there is a Law from %d to %d of %d", x[0], x[1], first)
			}
		}
	}
}

func TestTheBand(t *testing.T) { // 16.1: at the target, within the tolerance on either side, at its ends and beyond
	for _, x := range []struct {
		tol   int
		value int64
		want  int
	}{
		{100, 1000, 40},
		{100, 999, 40},
		{100, 1001, 40},
		{100, 900, 40},
		{100, 1100, 40},
		{100, 899, 36},  // 35.96
		{100, 1101, 45}, // 44.04
		{100, 500, 20},
		{100, 2000, 80},
		{100, 1, 1}, // 0.04
		{0, 1000, 40},
		{0, 999, 40}, // 39.96
		{0, 975, 39},
		{0, 974, 39}, // 38.96
		{0, 1001, 41},
		{0, 1025, 41},
		{0, 1026, 42},
		{1, 999, 40},
		{1, 1001, 40},
		{1, 998, 40}, // 39.92
		{1, 975, 39},
		{1, 1002, 41}, // 40.08
		{500, 500, 40},
		{500, 499, 20},
		{500, 1500, 40},
		{500, 1501, 61}, // 60.04
		{1000, 0, 40},
		{1000, 1, 40},
		{1000, 2000, 40},
		{1000, 2001, 81}, // 80.04
	} {
		c := free()
		c.Tol = x.tol
		gives(t, made(t, c, 40), []int64{x.value}, x.want, x.want)
	}
}

func TestEachTolerance(t *testing.T) { // 16.1: both ends of each band, and one beyond
	for tol := range 1001 {
		c := free()
		c.Tol = tol
		for _, value := range []int64{999 - int64(tol), 1000 - int64(tol), 1000, 1000 + int64(tol), 1001 + int64(tol)} {
			o := begun(c, 40)
			o.goes(t, made(t, c, 40), []int64{value})
		}
	}
}

func TestTheEndsOfAValue(t *testing.T) { // 16.1: 0 and MaxValue, of any target and count; then one beyond on either side
	for _, x := range []struct {
		target, value int64
		first         int
		count, want   int
	}{
		{1000, 0, 40, 1, 0}, // none is wanted, but Min is 1
		{1000, most, 40, 1040, million},
		{1, most, 1, 1001, million},
		{1, 0, 1, 1, 0},
		{most, most, 40, 40, 40},
		{most, 0, 40, 1, 0},
		{most, 1, 40, 1, 1},
		{most, most, room, room, room},
		{most - 1, most, 40, 40, 40},
		{most / 2, most, 40, 80, 80},
		{most / 2, most, room, room, 2 * room},
		{most / 100, most, room, room, million},
	} {
		l := made(t, targets(free(), x.target), x.first)
		refuses(t, l, []int64{-1})
		refuses(t, l, []int64{most + 1})
		gives(t, l, []int64{x.value}, x.count, x.want)
	}
}

func TestHowManyValues(t *testing.T) { // 16.1: as many as there are metrics, not one fewer nor one more, nor none
	all := []int64{1000, 2000, 3000, 4000}
	for m := 1; m <= 4; m++ {
		l := made(t, targets(conf.Default(), all[:m]...), 4)
		for range 2 {
			refuses(t, l, nil)
			refuses(t, l, []int64{})
			for n := range 9 {
				if n != m {
					refuses(t, l, slices.Repeat(all, 2)[:n])
				}
			}
			gives(t, l, all[:m], 4, 4)
		}
		refuses(t, l, make([]int64, 1<<16))
		refuses(t, l, make([]int64, 4+1<<16))
	}
}

func TestAValueThatMayNotBe(t *testing.T) { // 16.1: at any place, alone and with others, whatever the others want
	all := []int64{1000, 2000, 3000, 4000}
	for m := 1; m <= 4; m++ {
		l := made(t, targets(conf.Default(), all[:m]...), 4)
		for _, wild := range wildValues() {
			for at := range m {
				for _, rest := range []int64{0, 1000, most, wild} {
					values := slices.Repeat([]int64{rest}, m)
					values[at] = wild
					refuses(t, l, values)
				}
			}
		}
		gives(t, l, all[:m], 4, 4)
	}
}

func TestEachValueThatMayBe(t *testing.T) { // 16.1: at any place
	for m := 1; m <= 4; m++ {
		c := targets(conf.Default(), []int64{1000, 2000, 3000, 4000}[:m]...)
		for _, value := range tameValues() {
			for at := range m {
				values := slices.Clone(c.Target[:m])
				values[at] = value
				begun(c, 4).goes(t, made(t, c, 4), values)
			}
		}
	}
}

func TestTheGreatestHolds(t *testing.T) { // 16.1: of several metrics another one each time, each by its own target
	c := targets(free(), 1000, 10, 500000, 7)
	for _, x := range []struct {
		values []int64
		want   int
	}{
		{[]int64{1000, 10, 500000, 7}, 40},
		{[]int64{1500, 10, 500000, 7}, 60},
		{[]int64{1000, 20, 500000, 7}, 80},
		{[]int64{1000, 10, 600000, 7}, 48},
		{[]int64{1000, 10, 500000, 8}, 46}, // 45.71
		{[]int64{1500, 20, 600000, 8}, 80},
		{[]int64{1500, 12, 600000, 8}, 60},
		{[]int64{1200, 12, 700000, 8}, 56},
		{[]int64{1200, 12, 600000, 35}, 200},
		{[]int64{500, 1, 50000, 1}, 20},
		{[]int64{50, 3, 50000, 1}, 12},
		{[]int64{50, 1, 200000, 1}, 16},
		{[]int64{50, 1, 50000, 6}, 35}, // 34.29
		{[]int64{50, 10, 50000, 1}, 40},
		{[]int64{0, 0, 0, 7}, 40},
		{[]int64{0, 0, 1, 0}, 1},
		{[]int64{1050, 9, 100, 0}, 40},
	} {
		gives(t, made(t, c, 40), x.values, x.want, x.want)
	}
	gives(t, made(t, c, 40), []int64{0, 0, 0, 0}, 1, 0)
}

// step is what an epoch gives, and what comes of it.
type step struct {
	values      []int64 // nil: it holds
	count, want int
}

// walks takes a Law through all steps, and asks at each what Calm and Policy keep.
func walks(t *testing.T, c api.Conf, first int, steps ...step) {
	t.Helper()
	l, wants, counts := made(t, c, first), []int{}, []int{first}
	for _, x := range steps {
		if x.values == nil {
			holds(t, l)
		} else {
			gives(t, l, x.values, x.count, x.want)
			wants = append(wants, x.want)
		}
		counts = append(counts, x.count)
		stands(t, l, x.count, last(wants, max(c.CalmUp, c.CalmDown)+1), last(counts, c.Period))
	}
}

func TestUpAndDown(t *testing.T) { // 16.1: the default, held back by Policy up and down, by Calm down, by Min
	walks(t, conf.Default(), 4,
		step{[]int64{1000}, 4, 4},
		step{[]int64{1500}, 6, 6},
		step{[]int64{1000}, 6, 6},
		step{[]int64{5000}, 12, 30}, // twice the 6 of two epochs ago
		step{[]int64{5000}, 12, 60},
		step{[]int64{5000}, 24, 60},
		step{[]int64{0}, 24, 0}, // 60 was wanted within three epochs
		step{[]int64{0}, 24, 0},
		step{[]int64{0}, 24, 0},
		step{[]int64{0}, 12, 0}, // half of 24
		step{[]int64{0}, 12, 0},
		step{[]int64{0}, 6, 0},
		step{[]int64{0}, 6, 0},
		step{[]int64{0}, 2, 0}, // 4 fewer than 6
		step{[]int64{0}, 2, 0},
		step{[]int64{0}, 1, 0}, // Min
		step{[]int64{0}, 1, 0},
		step{[]int64{1000}, 1, 1},
		step{[]int64{most}, 5, million}, // 4 more than 1
		step{[]int64{most}, 5, million},
		step{[]int64{most}, 10, million},
	)
}

func TestToMax(t *testing.T) { // 16.1: Policy's other end, and down from there
	walks(t, with(func(c *api.Conf) { c.CalmDown = 0 }), 40,
		step{[]int64{9999}, 80, 400},
		step{[]int64{9999}, 80, 800},
		step{[]int64{9999}, 100, 800}, // not 160
		step{[]int64{9999}, 100, 1000},
		step{[]int64{1000}, 100, 100},
		step{[]int64{1100}, 100, 100},
		step{[]int64{1101}, 100, 111},
		step{[]int64{300}, 50, 30}, // half of 100
		step{[]int64{300}, 50, 15},
		step{[]int64{880}, 44, 44},
	)
}

func TestHeldBackByCalm(t *testing.T) { // 16.1: windows of 0 and of some, up and down, with Policy out of the way
	calm := func(up, down int) api.Conf {
		c := free()
		c.CalmUp, c.CalmDown = up, down
		return c
	}
	walks(t, calm(0, 0), 10, step{[]int64{3000}, 30, 30}, step{[]int64{500}, 15, 15}, step{[]int64{2000}, 30, 30})
	walks(t, calm(1, 0), 10,
		step{[]int64{1000}, 10, 10},
		step{[]int64{3000}, 10, 30}, // 10 was wanted an epoch ago
		step{[]int64{2000}, 20, 20}, // 30 and 20
		step{[]int64{2000}, 20, 40}, // 20 and 40
		step{[]int64{500}, 10, 10},
		step{[]int64{3000}, 10, 30},
	)
	walks(t, calm(0, 2), 10,
		step{[]int64{1000}, 10, 10},
		step{[]int64{500}, 10, 5},
		step{[]int64{400}, 10, 4},
		step{[]int64{300}, 5, 3}, // 5, 4, 3
		step{[]int64{2000}, 10, 10},
		step{[]int64{300}, 10, 3},
		step{[]int64{700}, 10, 7},
		step{[]int64{500}, 7, 5},
	)
	walks(t, calm(2, 1), 10,
		step{[]int64{3000}, 30, 30}, // nothing else was wanted yet
		step{[]int64{100}, 30, 3},
		step{[]int64{2000}, 30, 60},
		step{[]int64{2000}, 30, 60}, // 3, 60, 60
		step{[]int64{2000}, 60, 60},
		step{[]int64{100}, 60, 6},
		step{[]int64{200}, 12, 12}, // 6, 12
	)
	walks(t, calm(60, 60), 10, slices.Concat(
		[]step{{[]int64{1000}, 10, 10}},
		slices.Repeat([]step{{[]int64{3000}, 10, 30}}, 60),
		[]step{{[]int64{3000}, 30, 30}},
		[]step{{[]int64{500}, 30, 15}},
		slices.Repeat([]step{{[]int64{500}, 30, 15}}, 59),
		[]step{{[]int64{500}, 15, 15}},
	)...)
}

func TestHeldBackByPolicy(t *testing.T) { // 16.1: by each rate, up and down, and by a period of one and of some, with Calm out of the way
	rates := func(period, podsUp, pctUp, podsDown, pctDown int) api.Conf {
		c := free()
		c.Period, c.PodsUp, c.PctUp, c.PodsDown, c.PctDown = period, podsUp, pctUp, podsDown, pctDown
		return c
	}
	high, low := []int64{most}, []int64{1}
	walks(t, rates(1, 3, 10, 2, 5), 10, step{high, 13, million}, step{high, 16, million}, step{low, 14, 1}, step{low, 12, 1})
	walks(t, rates(1, 3, 50, 2, 30), 10, step{high, 15, million}, step{high, 23, million}, step{low, 16, 1}, step{low, 11, 1}, step{low, 7, 1}, step{low, 4, 1}, step{low, 2, 1}, step{low, 1, 1})
	walks(t, rates(3, 3, 50, 2, 30), 10,
		step{high, 15, million}, // by the 10
		step{high, 15, million},
		step{high, 15, million},
		step{high, 23, million},
		step{low, 10, 1}, // by a 15
		step{low, 10, 1},
		step{low, 16, 1}, // by the 23: never faster than the rates, though more than there were
		step{low, 7, 1},
	)
	walks(t, rates(1, 1000, 1000, 1000, 100), 500, step{high, 5500, million}, step{high, room, million}, step{low, 10, 10}, step{low, 1, 1})
}

func TestHeldBackByTheEnds(t *testing.T) { // 16.1: by Min and Max alone, at them and next to them
	c := free()
	c.Min, c.Max = 5, 50
	walks(t, c, 5,
		step{[]int64{0}, 5, 0},
		step{[]int64{1000}, 5, 5},
		step{[]int64{9800}, 49, 49},
		step{[]int64{1102}, 50, 54},
		step{[]int64{1100}, 50, 50},
		step{[]int64{most}, 50, million},
		step{[]int64{120}, 6, 6},
		step{[]int64{700}, 5, 5},
		step{[]int64{700}, 5, 4},
	)
	c.Min, c.Max = 7, 7
	walks(t, c, 7, step{[]int64{0}, 7, 0}, step{[]int64{most}, 7, million}, step{[]int64{1000}, 7, 7}, step{nil, 7, 0})
}

func TestHold(t *testing.T) { // 16.1: at the beginning and in between: the count stays, and is put to the policy; nothing was wanted
	walks(t, conf.Default(), 4, step{nil, 4, 0}, step{nil, 4, 0}, step{nil, 4, 0}, step{[]int64{9000}, 8, 36}, step{nil, 8, 0})
	walks(t, conf.Default(), 4,
		step{[]int64{9000}, 8, 36},
		step{nil, 8, 0},
		step{[]int64{9000}, 16, 72}, // the 4 has gone by the hold
		step{nil, 16, 0},
		step{nil, 16, 0},
		step{[]int64{100}, 16, 2}, // 72 is still one of the last four wants
		step{[]int64{100}, 16, 2},
		step{nil, 16, 0},
		step{[]int64{100}, 16, 2}, // 72, 2, 2, 2: no epoch that held counts
		step{[]int64{100}, 8, 2},
	)
	for _, period := range []int{1, 2, 3, 59, 60} {
		c := with(func(c *api.Conf) { c.Period = period })
		walks(t, c, 1, slices.Repeat([]step{{nil, 1, 0}}, 2*period)...)
		walks(t, c, 100, slices.Repeat([]step{{nil, 100, 0}}, 2*period)...)
	}
}

func TestAHoldIsNotLimited(t *testing.T) { // 16.1: the count stays, beyond the bounds too
	l := made(t, conf.Default(), 50)
	gives(t, l, []int64{100}, 25, 5)
	gives(t, l, []int64{8000}, 100, 200)
	holds(t, l) // bounds of the 25 are 12 and 50
	stands(t, l, 100, []int{5, 200}, []int{100, 100})
}

func TestTheSecondTellingOfAllSmallOnes(t *testing.T) { // 16.1, T1: windows, periods and epochs as small as can be, all with all
	epochs := [][]int64{{0}, {700}, {1000}, {1600}, {5000}, nil}
	for _, x := range [][3]int{{0, 0, 1}, {0, 0, 2}, {0, 1, 1}, {1, 0, 2}, {1, 1, 3}, {2, 1, 2}, {0, 3, 2}} {
		c := with(func(c *api.Conf) { c.CalmUp, c.CalmDown, c.Period = x[0], x[1], x[2] })
		for code := range 6 * 6 * 6 * 6 * 6 {
			o, l := begun(c, 10), made(t, c, 10)
			for range 5 {
				if values := epochs[code%6]; values == nil {
					o.stays(t, l)
				} else {
					o.goes(t, l, values)
				}
				code /= 6
			}
		}
	}
}

func TestTheSecondTellingAnywhere(t *testing.T) { // 16.1, T1: of any configuration, with holds and values that may not be in between
	dice := rand.New(rand.NewPCG(16, 2))
	for range 1500 {
		c := thrownConf(dice)
		first := thrownFrom(dice, c.Min, c.Max)
		o, l := begun(c, first), made(t, c, first)
		for range 150 {
			switch dice.IntN(12) {
			case 0:
				o.stays(t, l)
			case 1:
				o.goes(t, l, thrownWrong(dice, c))
			default:
				o.goes(t, l, thrownValues(dice, c))
			}
		}
	}
}

func TestWhatIsRefusedChangesNothing(t *testing.T) { // 16.1: it goes on as one that nobody tried to give it to
	dice := rand.New(rand.NewPCG(16, 3))
	for range 500 {
		c := thrownConf(dice)
		first := thrownFrom(dice, c.Min, c.Max)
		a, b := made(t, c, first), made(t, c, first)
		for range 30 {
			for range dice.IntN(3) {
				refuses(t, a, thrownWrong(dice, c))
			}
			values := thrownValues(dice, c)
			n, want, _ := b.Next(values)
			gives(t, a, values, n, want)
			stands(t, a, b.Count(), b.Calm().All(), b.Policy().All())
		}
	}
}

func TestCountTellsOnly(t *testing.T) { // 16.1: Count, Calm and Policy change nothing, however often they are asked
	l := made(t, conf.Default(), 4)
	for range 5 {
		stands(t, l, 4, nil, []int{4})
	}
	gives(t, l, []int64{1500}, 6, 6)
	for range 5 {
		stands(t, l, 6, []int{6}, []int{4, 6})
	}
}

// set makes l go on where another one stands, as chapter 19 has it: begun with its count, with its Calm and its Policy set.
func set(t *testing.T, l, other *Law) {
	t.Helper()
	if code := l.Calm().Set(other.Calm().All()); code != api.OK {
		t.Fatalf("Set of Calm is %d", code)
	}
	if code := l.Policy().Set(other.Policy().All()); code != api.OK {
		t.Fatalf("Set of Policy is %d", code)
	}
	stands(t, l, other.Count(), other.Calm().All(), other.Policy().All())
}

func TestSetThroughCalmAndPolicy(t *testing.T) { // 16.1 with 19.3: what they are set to is what Next goes by
	l := made(t, conf.Default(), 6)
	if l.Calm().Set([]int{9}) != api.OK || l.Policy().Set([]int{20, 6}) != api.OK {
		t.Fatal("it can't be set")
	}
	stands(t, l, 6, []int{9}, []int{20, 6})
	gives(t, l, []int64{10}, 10, 1) // Calm stays at 6 for the 9, and half of 20 is the lower bound
	stands(t, l, 10, []int{9, 1}, []int{6, 10})
	if l.Calm().Set([]int{70, 1, 1, 1}) != api.OK {
		t.Fatal("it can't be set")
	}
	gives(t, l, []int64{1000}, 10, 10)
	stands(t, l, 10, []int{1, 1, 1, 10}, []int{10, 10})
	if l.Calm().Set([]int{1, 1, 1, 1, 1}) != api.ErrArg || l.Policy().Set([]int{101}) != api.ErrArg || l.Policy().Set(nil) != api.ErrArg {
		t.Fatal("it could be set")
	}
	stands(t, l, 10, []int{1, 1, 1, 10}, []int{10, 10})
}

func TestSetItGoesOnAsTheOther(t *testing.T) { // 16.1 with 19.3: whatever either was given ahead of that
	dice := rand.New(rand.NewPCG(16, 4))
	for range 500 {
		c := thrownConf(dice)
		a := made(t, c, thrownFrom(dice, c.Min, c.Max))
		for range dice.IntN(80) {
			a.Next(thrownValues(dice, c))
		}
		b := made(t, c, a.Count())
		set(t, b, a)
		for range 70 {
			if dice.IntN(10) == 0 {
				holds(t, a)
				holds(t, b)
			}
			values := thrownValues(dice, c)
			n, want, _ := a.Next(values)
			gives(t, b, values, n, want)
			stands(t, b, a.Count(), a.Calm().All(), a.Policy().All())
		}
	}
}

func TestItsCalmAndPolicyStayTheSame(t *testing.T) { // 16.1: who has asked for them once sees what goes through them later
	l := made(t, conf.Default(), 4)
	calm, policy := l.Calm(), l.Policy()
	gives(t, l, []int64{1500}, 6, 6)
	holds(t, l)
	refuses(t, l, nil)
	if calm != l.Calm() || policy != l.Policy() {
		t.Error("they are others now")
	}
	if !slices.Equal(calm.All(), []int{6}) || !slices.Equal(policy.All(), []int{6, 6}) {
		t.Errorf("they tell %v and %v", calm.All(), policy.All())
	}
}

func TestOfNil(t *testing.T) { // 16.1: 0, ErrArg, nil, with any values
	var l *Law
	for _, values := range [][]int64{nil, {}, {0}, {1000}, {-1}, {most + 1}, {1, 2, 3, 4}, make([]int64, 5)} {
		if n, w, code := l.Next(values); n != 0 || w != 0 || code != api.ErrArg {
			t.Errorf("Next(%v) is %d, %d, %d", values, n, w, code)
		}
	}
	if n := l.Hold(); n != 0 {
		t.Errorf("Hold is %d", n)
	}
	if n := l.Count(); n != 0 {
		t.Errorf("Count is %d", n)
	}
	if l.Calm() != nil || l.Policy() != nil {
		t.Error("there is a Calm or a Policy")
	}
}

func TestOfOneThatNewDidNotMake(t *testing.T) { // rule 1: it has no metrics, so it answers as nil does
	var l Law
	for _, values := range [][]int64{nil, {}, {0}, {1000}, {1, 2, 3, 4}} {
		refuses(t, &l, values)
	}
	holds(t, &l)
	stands(t, &l, 0, nil, nil)
	if l.Calm() != nil || l.Policy() != nil {
		t.Error("there is a Calm or a Policy")
	}
}

// more is values of which each is at least that of l, often just that.
func more(dice *rand.Rand, l []int64) []int64 {
	l = slices.Clone(l)
	for i := range l {
		switch dice.IntN(4) {
		case 0:
			l[i]++
		case 1:
			l[i] = max(l[i], thrownValue(dice))
		case 2:
			l[i] += dice.Int64N(l[i]/10 + 1)
		}
		l[i] = min(l[i], most)
	}
	return l
}

// both gives a values, and b at least these, and asks that b's count is no less.
func both(t *testing.T, a, b *Law, few, many []int64) {
	t.Helper()
	was, wasMore := a.Count(), b.Count()
	n, w, code := a.Next(few)
	m, v, codeMore := b.Next(many)
	if n > m || w > v || code != codeMore {
		t.Fatalf("Next(%v) of %d is %d, %d, %d, and Next(%v) of %d is %d, %d, %d", few, was, n, w, code, many, wasMore, m, v, codeMore)
	}
}

// bothHold lets both hold, and asks that b's count is no less.
func bothHold(t *testing.T, a, b *Law) {
	t.Helper()
	holds(t, a)
	holds(t, b)
	if a.Count() > b.Count() {
		t.Fatalf("they hold at %d and %d", a.Count(), b.Count())
	}
}

func TestMoreNeverGivesLessOfAllSmallOnes(t *testing.T) { // 16.2: all epochs of three values, or held, with all that are at least these
	var pairs [][2]int64
	for _, low := range []int64{500, 1000, 3000} {
		for _, high := range []int64{500, 1000, 3000} {
			if low <= high {
				pairs = append(pairs, [2]int64{low, high})
			}
		}
	}
	pairs = append(pairs, [2]int64{-1, -1}) // held
	for _, x := range [][3]int{{0, 0, 1}, {0, 0, 2}, {0, 1, 1}, {1, 0, 2}, {1, 1, 3}, {2, 1, 2}, {0, 3, 2}} {
		c := with(func(c *api.Conf) { c.CalmUp, c.CalmDown, c.Period = x[0], x[1], x[2] })
		for _, firsts := range [][2]int{{10, 10}, {10, 11}, {5, 20}, {1, 100}} {
			for code := range 7 * 7 * 7 * 7 * 7 {
				a, b := made(t, c, firsts[0]), made(t, c, firsts[1])
				for range 5 {
					if p := pairs[code%7]; p[0] < 0 {
						bothHold(t, a, b)
					} else {
						both(t, a, b, []int64{p[0]}, []int64{p[1]})
					}
					code /= 7
				}
			}
		}
	}
}

func TestMoreNeverGivesLess(t *testing.T) { // 16.2: of any configuration, with holds and values that may not be at the same epochs
	dice := rand.New(rand.NewPCG(16, 5))
	for range 2000 {
		c := thrownConf(dice)
		few := thrownFrom(dice, c.Min, c.Max)
		a, b := made(t, c, few), made(t, c, thrownFrom(dice, few, c.Max))
		for range 150 {
			switch dice.IntN(12) {
			case 0:
				bothHold(t, a, b)
			case 1:
				wrong := thrownWrong(dice, c)
				refuses(t, a, wrong)
				refuses(t, b, wrong)
			default:
				values := thrownValues(dice, c)
				both(t, a, b, values, more(dice, values))
			}
		}
	}
}

func TestOneMoreOnceNeverGivesLess(t *testing.T) { // 16.2: one value of one epoch alone is greater, or the first count is
	dice := rand.New(rand.NewPCG(16, 6))
	for i := range 2000 {
		c := thrownConf(dice)
		first := thrownFrom(dice, c.Min, c.Max)
		a, b := made(t, c, first), made(t, c, min(first+i%2, c.Max))
		at := dice.IntN(20)
		for epoch := range 60 {
			values := thrownValues(dice, c)
			high := slices.Clone(values)
			if epoch == at {
				one := dice.IntN(c.M)
				high[one] = min(high[one]+1+dice.Int64N(1+high[one]), most)
			}
			both(t, a, b, values, high)
		}
	}
}

func TestEachFirstInOrder(t *testing.T) { // 16.2: all counts from Min to Max, given the same: they stay in order
	dice := rand.New(rand.NewPCG(16, 7))
	for range 60 {
		c := thrownConf(dice)
		c.Min, c.Max = 1, 100
		var laws []*Law
		for first := 1; first <= 100; first++ {
			laws = append(laws, made(t, c, first))
		}
		for range 30 {
			values := thrownValues(dice, c)
			was := 0
			for _, l := range laws {
				n, _, _ := l.Next(values)
				if n < was {
					t.Fatalf("%+v: Next(%v) is %d behind one of %d", c, values, n, was)
				}
				was = n
			}
		}
	}
}

func TestBetweenTheLeastAndTheGreatest(t *testing.T) { // T2: who is given anything between two others has a count between theirs
	dice := rand.New(rand.NewPCG(16, 8))
	for range 1000 {
		c := thrownConf(dice)
		laws := []*Law{made(t, c, c.Min), made(t, c, c.Min), made(t, c, c.Min)}
		for range 100 {
			low := thrownValues(dice, c)
			between := more(dice, low)
			high := more(dice, between)
			hold := dice.IntN(8) == 0
			var counts []int
			for i, values := range [][]int64{low, between, high} {
				if hold {
					holds(t, laws[i])
				} else {
					laws[i].Next(values)
				}
				counts = append(counts, laws[i].Count())
			}
			if !slices.IsSorted(counts) {
				t.Fatalf("%+v: the counts are %v", c, counts)
			}
		}
	}
}

// near is values within the band of each metric.
func near(dice *rand.Rand, c api.Conf) []int64 {
	var l []int64
	for _, target := range c.Target[:c.M] {
		low := (target*int64(1000-c.Tol) + 999) / 1000
		high := min(target*int64(1000+c.Tol)/1000, most)
		l = append(l, low+dice.Int64N(high-low+1))
	}
	return l
}

func TestWithinTheBandTheCountStays(t *testing.T) { // T5: from the first epoch on, and, with a period of one, whatever was ahead
	dice := rand.New(rand.NewPCG(16, 9))
	for range 500 {
		c := thrownConf(dice)
		first := thrownFrom(dice, c.Min, c.Max)
		l := made(t, c, first)
		for range 70 {
			gives(t, l, near(dice, c), first, first)
		}
		c.Period = 1
		l = made(t, c, first)
		for range 100 {
			if dice.IntN(2) == 0 {
				l.Next(thrownValues(dice, c))
			}
			gives(t, l, near(dice, c), l.Count(), l.Count())
		}
	}
}

func TestBehindAPeriodOfHoldsTheCountStays(t *testing.T) { // T5: with all counts of the period alike, within the band it stays
	dice := rand.New(rand.NewPCG(16, 10))
	for range 500 {
		c := thrownConf(dice)
		l := made(t, c, thrownFrom(dice, c.Min, c.Max))
		for range 10 {
			for range dice.IntN(20) {
				l.Next(thrownValues(dice, c))
			}
			for range c.Period {
				holds(t, l)
			}
			for range 10 {
				gives(t, l, near(dice, c), l.Count(), l.Count())
			}
		}
	}
}

func TestAnOlderCountMayStillBind(t *testing.T) { // 16.1 with 15.2: by the bounds of two epochs ago the count changes, though the value is at the target
	walks(t, conf.Default(), 20,
		step{[]int64{500}, 10, 10},
		step{[]int64{4000}, 40, 40},
		step{[]int64{1000}, 20, 40}, // twice the 10
		step{[]int64{1000}, 20, 20},
	)
}

func TestNeverFasterThanTheRates(t *testing.T) { // T5: no count is beyond the bounds of the one a period ago, where it doesn't hold
	dice := rand.New(rand.NewPCG(16, 11))
	for range 500 {
		c := thrownConf(dice)
		counts := []int{thrownFrom(dice, c.Min, c.Max)}
		l := made(t, c, counts[0])
		for range 150 {
			if dice.IntN(10) == 0 {
				counts = append(counts, l.Hold())
				continue
			}
			low, high := reach(c, counts[max(0, len(counts)-c.Period)])
			n, _, _ := l.Next(thrownValues(dice, c))
			if n < low || n > high || n < c.Min || n > c.Max {
				t.Fatalf("%+v: %d behind %v", c, n, counts)
			}
			counts = append(counts, n)
		}
	}
}

func TestWhatIsHandedInStays(t *testing.T) { // rule 2: with what stands behind it, whether it is taken or not, and whatever comes later
	l := made(t, targets(conf.Default(), 1000, 2000), 4)
	for _, n := range []int{0, 1, 2, 3, 4} {
		for _, first := range []int64{9000, 0, -1, most + 1} {
			whole := []int64{first, 100, 7777, -7, most + 3}
			was := slices.Clone(whole)
			l.Next(whole[:n])
			l.Next([]int64{1000, 2000})
			l.Hold()
			if !slices.Equal(whole, was) {
				t.Errorf("%v was changed to %v", was, whole)
			}
		}
	}
}

func TestWhatWasHandedInMayBeChanged(t *testing.T) { // rule 2: it is not kept
	c := targets(conf.Default(), 1000, 2000)
	a, b := made(t, c, 4), made(t, c, 4)
	c.Target[0], c.Target[1], c.M, c.Tol = 1, 1, 1, 0
	values := []int64{1500, 1000}
	for range 10 {
		a.Next(values)
		values[0], values[1] = 77, most
		b.Next([]int64{1500, 1000})
		stands(t, a, b.Count(), b.Calm().All(), b.Policy().All())
		values[0], values[1] = 1500, 1000
	}
}

func TestWhatWasToldIsTheCallers(t *testing.T) { // rule 2: the lists that Calm and Policy tell may be changed, and stay as they were told
	l := made(t, conf.Default(), 4)
	gives(t, l, []int64{1500}, 6, 6)
	wants, counts := l.Calm().All(), l.Policy().All()
	gives(t, l, []int64{1000}, 6, 6)
	if !slices.Equal(wants, []int{6}) || !slices.Equal(counts, []int{4, 6}) {
		t.Errorf("what was told is now %v and %v", wants, counts)
	}
	wants, counts = l.Calm().All(), l.Policy().All()
	for _, told := range [][]int{wants[:cap(wants)], counts[:cap(counts)]} {
		for i := range told {
			told[i] = -9
		}
	}
	stands(t, l, 6, []int{6, 6}, []int{6, 6})
	gives(t, l, []int64{5000}, 12, 30)
}

func TestTwoLaws(t *testing.T) { // rule 3: each has its own
	a, b := made(t, conf.Default(), 4), made(t, conf.Default(), 4)
	gives(t, a, []int64{1500}, 6, 6)
	stands(t, b, 4, nil, []int{4})
	gives(t, b, []int64{500}, 2, 2)
	stands(t, a, 6, []int{6}, []int{4, 6})
	b.Calm().Set([]int{9})
	b.Policy().Set([]int{9})
	holds(t, a)
	stands(t, a, 6, []int{6}, []int{6, 6})
	other := made(t, targets(conf.Default(), 50, 60), 30)
	gives(t, other, []int64{50, 60}, 30, 30)
	gives(t, a, []int64{2000}, 12, 12)
	refuses(t, other, []int64{2000})
}

func TestTheSameEachTime(t *testing.T) { // rule 3: the same calls give the same answers, whatever others do with their Laws
	dice := rand.New(rand.NewPCG(16, 12))
	c := with(func(c *api.Conf) { c.CalmUp, c.CalmDown, c.Period = 1, 7, 5 })
	c = targets(c, 1000, 30)
	var epochs [][]int64
	var answers []int
	l := made(t, c, 4)
	for range 500 {
		values := []int64{dice.Int64N(2000), dice.Int64N(60)}
		n, _, _ := l.Next(values)
		epochs, answers = append(epochs, values), append(answers, n)
	}
	var laws sync.WaitGroup
	for range 16 {
		laws.Go(func() {
			m := New(c, 4)
			for i, values := range epochs {
				if n, _, _ := m.Next(values); n != answers[i] {
					t.Error("what is told hangs on more than the calls")
				}
			}
			if m.Count() != l.Count() || !slices.Equal(m.Calm().All(), l.Calm().All()) || !slices.Equal(m.Policy().All(), l.Policy().All()) {
				t.Error("what is kept hangs on more than the calls")
			}
		})
	}
	laws.Wait()
}

func TestAskedByManyAtOnce(t *testing.T) { // rule 3: what only tells may be asked at one time
	l := made(t, conf.Default(), 4)
	gives(t, l, []int64{1500}, 6, 6)
	var asking sync.WaitGroup
	for range 16 {
		asking.Go(func() {
			for range 100 {
				if l.Count() != 6 || !slices.Equal(l.Calm().All(), []int{6}) || !slices.Equal(l.Policy().All(), []int{4, 6}) {
					t.Errorf("it tells %d, %v, %v", l.Count(), l.Calm().All(), l.Policy().All())
				}
			}
		})
	}
	asking.Wait()
}
