package policy

import (
	"math"
	"math/rand/v2"
	"slices"
	"sort"
	"sync"
	"testing"

	"quorumite/api"
	"quorumite/conf"
)

const (
	longest = 60
	room    = api.MaxReplicas
)

// part is a part of a configuration that is asked, with its ends.
type part struct {
	name        string
	of          func(c *api.Conf) *int
	least, most int
}

// parts are all that are asked; Max is asked for Min too.
func parts() []part {
	return []part{
		{"podsup", func(c *api.Conf) *int { return &c.PodsUp }, 1, 1000},
		{"pctup", func(c *api.Conf) *int { return &c.PctUp }, 1, 1000},
		{"podsdown", func(c *api.Conf) *int { return &c.PodsDown }, 1, 1000},
		{"pctdown", func(c *api.Conf) *int { return &c.PctDown }, 1, 100},
		{"period", func(c *api.Conf) *int { return &c.Period }, 1, longest},
		{"min", func(c *api.Conf) *int { return &c.Min }, 1, room},
		{"max", func(c *api.Conf) *int { return &c.Max }, 1, room},
	}
}

// unasked are configurations of which no part but those seven may be, and those are the same as in c.
func unasked(c api.Conf) []api.Conf {
	var none api.Conf
	odd := api.Conf{
		N: -1, F: math.MaxInt, M: 99, Quorum: math.MinInt, Fresh: -5, Grace: math.MaxInt, Window: 65,
		Target: [4]int64{-1, math.MinInt64, math.MaxInt64, 7}, Tol: 1001,
		CalmUp: 61, CalmDown: -1, Far: -1, Strikes: 0, Probe: math.MinInt, Sectors: -64, Seed: math.MaxUint64,
	}
	for _, p := range parts() {
		*p.of(&none), *p.of(&odd) = *p.of(&c), *p.of(&c)
	}
	return []api.Conf{none, odd}
}

// fair is whether the parts that are asked may be, as conf tells it.
func fair(c api.Conf) bool {
	d := conf.Default()
	for _, p := range parts() {
		*p.of(&d) = *p.of(&c)
	}
	return conf.Wrong(d) == ""
}

// wide is the default with all replicas that there may be.
func wide() api.Conf {
	c := conf.Default()
	c.Max = room
	return c
}

// rated is wide with these rates.
func rated(podsUp, pctUp, podsDown, pctDown int) api.Conf {
	c := wide()
	c.PodsUp, c.PctUp, c.PodsDown, c.PctDown = podsUp, pctUp, podsDown, pctDown
	return c
}

// over is the default over a period, with other ends.
func over(period, least, most int) api.Conf {
	c := conf.Default()
	c.Period, c.Min, c.Max = period, least, most
	return c
}

// wildParts are numbers that no part may be: next to those that may, at the ends of 64 bits, and where a smaller kind would take them for one.
func wildParts() []int {
	return []int{-1, -2, -50, -100, -1000, -room, -256 + 5, -1 << 31, -1 << 32, -1<<32 + 3, -1 << 62, math.MinInt + 1, math.MinInt, 0, room + 1, room + 2, 65536, 65536 + 4, 1 << 31, 1 << 32, 1<<32 + 3, 1 << 62, math.MaxInt / 100, math.MaxInt - 1, math.MaxInt}
}

// wildBases are numbers that no base may be.
func wildBases() []int {
	return slices.DeleteFunc(wildParts(), func(n int) bool { return n == 0 })
}

// wildWants are wants at the ends of 64 bits and where a smaller kind would end: each may be asked.
func wildWants() []int {
	return append(wildParts(), 1000000, 110000, 110001, -110000, 127, 128, 255, 256, 32767, 32768, 65535)
}

// made is a Policy of which it is known that it may be.
func made(t *testing.T, c api.Conf, first int) *Policy {
	t.Helper()
	p := New(c, first)
	if p == nil {
		t.Fatalf("New(%+v, %d) is nil", c, first)
	}
	return p
}

// set is a Policy that keeps l.
func set(t *testing.T, c api.Conf, l []int) *Policy {
	t.Helper()
	p := made(t, c, c.Min)
	sets(t, p, l)
	return p
}

// sets sets p, which must go.
func sets(t *testing.T, p *Policy, l []int) {
	t.Helper()
	if code := p.Set(l); code != api.OK {
		t.Fatalf("Set(%v) is %d", l, code)
	}
	keeps(t, p, l)
}

// puts puts a count, which must go.
func puts(t *testing.T, p *Policy, count int) {
	t.Helper()
	if code := p.Put(count); code != api.OK {
		t.Fatalf("Put(%d) is %d", count, code)
	}
}

// keeps holds All and Base against what is asked for, which is never none.
func keeps(t *testing.T, p *Policy, l []int) {
	t.Helper()
	if all := p.All(); !slices.Equal(all, l) {
		t.Fatalf("All is %v, not %v", all, l)
	}
	if base := p.Base(); base != l[0] {
		t.Fatalf("Base of %v is %d", l, base)
	}
}

// refusesPut asks that Put doesn't take count, and that nothing changes by it.
func refusesPut(t *testing.T, p *Policy, count int) {
	t.Helper()
	was := p.All()
	if code := p.Put(count); code != api.ErrArg {
		t.Errorf("Put(%d) is %d", count, code)
	}
	keeps(t, p, was)
}

// refusesSet asks that Set doesn't take l, and that nothing changes by it.
func refusesSet(t *testing.T, p *Policy, l []int) {
	t.Helper()
	was := p.All()
	if code := p.Set(l); code != api.ErrArg {
		t.Errorf("Set of %d, %v, is %d", len(l), l, code)
	}
	keeps(t, p, was)
}

// limits asks that Limit tells n, and changes nothing.
func limits(t *testing.T, p *Policy, want, n int) {
	t.Helper()
	was := p.All()
	if got := p.Limit(want); got != n {
		t.Fatalf("Limit(%d) behind %v is %d, not %d", want, was, got, n)
	}
	keeps(t, p, was)
}

// bounds asks that Bounds tells these, whatever the parts are that aren't asked.
func bounds(t *testing.T, c api.Conf, base, low, high int) {
	t.Helper()
	for _, c := range append(unasked(c), c) {
		if l, h := Bounds(c, base); l != low || h != high {
			t.Fatalf("Bounds(%+v, %d) is %d, %d, not %d, %d", c, base, l, h, low, high)
		}
	}
}

// reach is a second telling of Bounds, of a c that may be: the least number that both ways up reach, and the greatest that both ways down do.
func reach(c api.Conf, base int) (int, int) {
	if base < 0 || base > 10000 {
		return 0, 0
	}
	high := sort.Search(1<<20, func(n int) bool { return n-base >= c.PodsUp && 100*(n-base) >= base*c.PctUp })
	gone := sort.Search(base, func(n int) bool { return n >= c.PodsDown && 100*n >= base*c.PctDown })
	return base - gone, high
}

// told is a second telling of a Policy: it keeps all counts that ever were, the first one too.
type told struct {
	c      api.Conf
	counts []int
}

// kept is All.
func (o *told) kept() []int {
	if len(o.counts) > o.c.Period {
		return o.counts[len(o.counts)-o.c.Period:]
	}
	return o.counts
}

// limit is Limit: the number nearest to want that is let by both ends and both bounds.
func (o *told) limit(want int) int {
	low, high := reach(o.c, o.kept()[0])
	low, high = max(low, o.c.Min), min(high, o.c.Max)
	switch {
	case want > high:
		return high
	case want < low:
		return low
	}
	return want
}

// agrees asks that p keeps what the second telling does, and limits as it does.
func (o *told) agrees(t *testing.T, p *Policy, wants ...int) {
	t.Helper()
	keeps(t, p, o.kept())
	for _, want := range wants {
		limits(t, p, want, o.limit(want))
	}
}

// thrownFrom is a number from low to high, often an end or near it.
func thrownFrom(dice *rand.Rand, low, high int) int {
	switch dice.IntN(6) {
	case 0:
		return low
	case 1:
		return high
	case 2:
		return min(high, low+dice.IntN(10))
	}
	return low + dice.IntN(high-low+1)
}

// thrownConf is a configuration that may be.
func thrownConf(dice *rand.Rand) api.Conf {
	c := conf.Default()
	for _, p := range parts() {
		*p.of(&c) = thrownFrom(dice, p.least, p.most)
	}
	c.Min, c.Max = min(c.Min, c.Max), max(c.Min, c.Max)
	return c
}

// thrownCounts are n counts that may be.
func thrownCounts(dice *rand.Rand, c api.Conf, n int) []int {
	var l []int
	for range n {
		l = append(l, thrownFrom(dice, c.Min, c.Max))
	}
	return l
}

// thrownWant is a want of any size, often near what c lets.
func thrownWant(dice *rand.Rand, c api.Conf) int {
	switch dice.IntN(8) {
	case 0:
		return wildWants()[dice.IntN(len(wildWants()))]
	case 1:
		return dice.IntN(1000001)
	}
	return thrownFrom(dice, c.Min-3, c.Max+3)
}

func TestExamples(t *testing.T) { // the chapter's, and the document's seventh
	bounds(t, conf.Default(), 4, 0, 8)
}

func TestBoundsUp(t *testing.T) { // 15.1: what the pods let and what the parts do, of which the greater one holds; parts are rounded up
	for _, x := range []struct{ podsUp, pctUp, base, high int }{
		{4, 100, 3, 7}, // the pods
		{4, 100, 4, 8}, // both
		{4, 100, 5, 10},
		{4, 100, 0, 4},
		{4, 100, 1, 5},
		{4, 100, room, 2 * room},
		{1, 1, 0, 1},
		{1, 1, 1, 2}, // 1.01
		{1, 1, 99, 100},
		{1, 1, 100, 101}, // 101
		{1, 1, 101, 103}, // 102.01
		{1, 1, 199, 201}, // 200.99
		{1, 1, 200, 202},
		{1, 1, room, room + 100},
		{1, 10, 9, 10},  // 9.9
		{1, 10, 10, 11}, // 11
		{1, 10, 11, 13}, // 12.1
		{1, 10, 19, 21}, // 20.9
		{2, 10, 11, 13},
		{3, 10, 11, 14},
		{1, 50, 3, 5},   // 4.5
		{1, 150, 3, 8},  // 7.5
		{1, 33, 7, 10},  // 9.31
		{1, 99, 7, 14},  // 13.93
		{1, 101, 7, 15}, // 14.07
		{1, 999, 7, 77}, // 76.93
		{1, 1000, 7, 77},
		{1000, 1000, 99, 1099},
		{1000, 1000, 100, 1100},
		{1000, 1000, 101, 1111},
		{1000, 1000, 0, 1000},
		{1000, 1000, room, 11 * room},
		{1000, 1, room, room + 1000},
		{1, 1000, room, 11 * room},
		{1, 1000, 0, 1},
		{1000, 1, 0, 1000},
	} {
		c := rated(x.podsUp, x.pctUp, 1, 100)
		bounds(t, c, x.base, 0, x.high)
	}
}

func TestBoundsDown(t *testing.T) { // 15.1: the less holds, parts are rounded down, and there is none below 0
	for _, x := range []struct{ podsDown, pctDown, base, low int }{
		{4, 50, 9, 4},  // 5 by the pods, 4.5 by the parts
		{4, 50, 8, 4},  // both
		{4, 50, 7, 3},  // the pods
		{4, 50, 10, 5}, // the parts
		{4, 50, 5, 1},
		{4, 50, 4, 0},
		{4, 50, 3, 0}, // -1
		{4, 50, 1, 0},
		{4, 50, 0, 0},
		{4, 50, room, room / 2},
		{1, 1, 0, 0},
		{1, 1, 1, 0}, // 0.99
		{1, 1, 2, 1},
		{1, 1, 99, 98},
		{1, 1, 100, 99},  // 99
		{1, 1, 101, 99},  // 99.99
		{1, 1, 200, 198}, // 198
		{1, 1, 201, 198}, // 198.99
		{1, 1, room, room - 100},
		{1, 10, 10, 9},
		{1, 10, 11, 9},  // 9.9
		{1, 10, 19, 17}, // 17.1
		{1, 10, 20, 18},
		{2, 10, 11, 9},
		{3, 10, 11, 8},
		{1, 50, 3, 1},  // 1.5
		{1, 33, 7, 4},  // 4.69
		{1, 99, 99, 0}, // 0.99
		{1, 99, 100, 1},
		{1, 99, 199, 1}, // 1.99
		{1, 99, 200, 2},
		{1, 99, room, 100},
		{1, 100, room, 0},
		{1, 100, 1, 0},
		{1, 100, 0, 0},
		{1000, 1, room, room - 1000},
		{1000, 1, 1001, 1},
		{1000, 1, 1000, 0},
		{1000, 1, 999, 0}, // -1
		{1000, 1, 0, 0},
		{1000, 100, room, 0},
	} {
		c := rated(1, 1000, x.podsDown, x.pctDown)
		bounds(t, c, x.base, x.low, max(x.base+1, 11*x.base))
	}
}

func TestBoundsAtTheEdgesOfBases(t *testing.T) { // 15.1: 0, the most replicas, and one beyond on either side; Min and Max don't hold it
	c := over(2, 20, 30)
	bounds(t, c, -1, 0, 0)
	bounds(t, c, 0, 0, 4)
	bounds(t, c, 1, 0, 5)
	bounds(t, c, 19, 9, 38)
	bounds(t, c, 20, 10, 40)
	bounds(t, c, 30, 15, 60)
	bounds(t, c, 31, 15, 62)
	bounds(t, c, room-1, 4999, 19998)
	bounds(t, c, room, 5000, 20000)
	bounds(t, c, room+1, 0, 0)
	for _, base := range wildBases() {
		bounds(t, c, base, 0, 0)
		bounds(t, rated(1000, 1000, 1000, 100), base, 0, 0)
		bounds(t, rated(1, 1, 1, 1), base, 0, 0)
	}
}

func TestBoundsOfEachRate(t *testing.T) { // 15.1: each of one alone, with the others at their ends
	bases := []int{0, 1, 2, 3, 4, 49, 50, 51, 99, 100, 101, 333, 999, 1000, 1001, 9999, room}
	for _, p := range parts()[:4] {
		for n := p.least; n <= p.most; n++ {
			for _, c := range []api.Conf{rated(1, 1, 1, 1), rated(1000, 1000, 1000, 100), conf.Default()} {
				*p.of(&c) = n
				for _, base := range bases {
					low, high := reach(c, base)
					if l, h := Bounds(c, base); l != low || h != high {
						t.Fatalf("%s %d: Bounds(%+v, %d) is %d, %d, not %d, %d", p.name, n, c, base, l, h, low, high)
					}
				}
			}
		}
	}
}

func TestBoundsAnywhere(t *testing.T) { // 15.1: as the second telling, of any configuration and base, one beyond too
	dice := rand.New(rand.NewPCG(15, 1))
	for range 3000 {
		c := thrownConf(dice)
		for range 20 {
			base := thrownFrom(dice, -1, room+1)
			low, high := reach(c, base)
			bounds(t, c, base, low, high)
		}
	}
}

func TestBoundsOfEachBase(t *testing.T) { // 15.1
	for _, c := range []api.Conf{wide(), rated(1, 1, 1, 1), rated(7, 33, 11, 67), rated(1000, 1000, 1000, 99), rated(1000, 3, 1000, 3)} {
		for base := range room + 1 {
			low, high := reach(c, base)
			if l, h := Bounds(c, base); l != low || h != high {
				t.Fatalf("Bounds(%+v, %d) is %d, %d, not %d, %d", c, base, l, h, low, high)
			}
		}
	}
}

// takes asks whether New and Bounds take c, as they should if is, whatever the parts are that aren't asked.
func takes(t *testing.T, c api.Conf, is bool) {
	t.Helper()
	if fair(c) != is {
		t.Fatalf("the test and conf aren't at one of %+v", c)
	}
	for _, first := range []int{c.Min, c.Max, 0, 1, 50, room} {
		for _, d := range append(unasked(c), c) {
			if p := New(d, first); (p != nil) != (is && first >= c.Min && first <= c.Max) {
				t.Errorf("New(%+v, %d) is %v", d, first, p)
			}
		}
	}
	for _, base := range []int{0, 1, 50, room} {
		low, high := 0, 0
		if is {
			low, high = reach(c, base)
		}
		bounds(t, c, base, low, high)
	}
}

func TestPartsAtTheirEdges(t *testing.T) { // 15.1, 15.2: each at its least and its most, and one beyond on either side
	for _, p := range parts() {
		for _, n := range []int{p.least - 1, p.least, p.least + 1, p.most - 1, p.most, p.most + 1} {
			c := wide()
			*p.of(&c) = n
			takes(t, c, n >= p.least && n <= p.most)
		}
	}
	lowest, highest := wide(), wide()
	for _, p := range parts() {
		*p.of(&lowest), *p.of(&highest) = p.least, p.most
	}
	for _, c := range []api.Conf{lowest, highest} {
		takes(t, c, true)
		for _, p := range parts() {
			for _, beyond := range []int{p.least - 1, p.most + 1} {
				d := c
				*p.of(&d) = beyond
				takes(t, d, false)
			}
		}
	}
}

func TestPctDownEndsBelowTheOthers(t *testing.T) { // 15.1: from 1 to 100, where the others of its kind go on to 1000
	takes(t, rated(1000, 1000, 1000, 100), true)
	takes(t, rated(1000, 1000, 1000, 101), false)
	takes(t, rated(1000, 1000, 1000, 1000), false)
}

func TestMaxIsFromMin(t *testing.T) { // 15.1, 15.2: Min itself, one more and one less
	for _, least := range []int{1, 2, 7, 100, room - 1, room} {
		takes(t, over(2, least, least), true)
		takes(t, over(2, least, least-1), false)
		takes(t, over(2, least, least+1), least < room)
		takes(t, over(2, least, room), true)
		takes(t, over(2, least, 0), false)
		takes(t, over(2, least, room+1), false)
	}
	takes(t, over(2, 0, 0), false)
	takes(t, over(2, 0, 5), false)
	takes(t, over(2, -5, -3), false)
	takes(t, over(2, room+1, room+1), false)
}

func TestPartsThatMayNotBe(t *testing.T) { // 15.1, 15.2: alone, and each with each
	for i, p := range parts() {
		for _, wild := range wildParts() {
			c := wide()
			*p.of(&c) = wild
			takes(t, c, false)
			for _, q := range parts()[:i] {
				for _, other := range wildParts() {
					d := c
					*q.of(&d) = other
					if New(d, 1) != nil || New(d, wild) != nil || New(d, other) != nil {
						t.Errorf("%s %d, %s %d: there is a Policy", p.name, wild, q.name, other)
					}
					if low, high := Bounds(d, 4); low != 0 || high != 0 {
						t.Errorf("%s %d, %s %d: Bounds is %d, %d", p.name, wild, q.name, other, low, high)
					}
				}
			}
		}
	}
	takes(t, api.Conf{}, false)
}

func TestEachPeriodMayBe(t *testing.T) { // 15.2: from 1 to 60
	for period := -3; period < 70; period++ {
		takes(t, over(period, 1, 100), period >= 1 && period <= 60)
	}
}

func TestFirst(t *testing.T) { // 15.2: at Min, at Max, and one beyond on either side; it is the count that is kept then
	for _, x := range [][2]int{{1, 100}, {1, 1}, {5, 5}, {5, 9}, {1, room}, {room, room}, {room - 1, room}} {
		for _, period := range []int{1, 2, 60} {
			c := over(period, x[0], x[1])
			for _, first := range []int{x[0], min(x[0]+1, x[1]), (x[0] + x[1]) / 2, x[1]} {
				for _, c := range append(unasked(c), c) {
					p := made(t, c, first)
					keeps(t, p, []int{first})
					low, high := reach(c, first)
					limits(t, p, 0, max(low, c.Min))
					limits(t, p, 1000000, min(high, c.Max))
				}
			}
			for _, first := range append(wildParts(), x[0]-1, x[1]+1, x[0]-2, x[1]+2) {
				for _, c := range append(unasked(c), c) {
					if p := New(c, first); p != nil {
						t.Errorf("there is a Policy from %d to %d of %d", x[0], x[1], first)
					}
				}
			}
		}
	}
}

func TestLimit(t *testing.T) { // 15.2: by Bounds of Base, then by Min and Max
	for _, x := range []struct{ least, most, base, want, n int }{
		{1, 100, 20, 0, 10}, // bounds of 20: 10 and 40, within both ends
		{1, 100, 20, 1, 10},
		{1, 100, 20, 9, 10},
		{1, 100, 20, 10, 10},
		{1, 100, 20, 11, 11},
		{1, 100, 20, 20, 20},
		{1, 100, 20, 39, 39},
		{1, 100, 20, 40, 40},
		{1, 100, 20, 41, 40},
		{1, 100, 20, 100, 40},
		{1, 100, 20, 101, 40},
		{1, 100, 20, -1, 10},
		{15, 100, 20, 9, 15}, // the lower one is below Min
		{15, 100, 20, 14, 15},
		{15, 100, 20, 15, 15},
		{15, 100, 20, 16, 16},
		{15, 100, 20, 41, 40},
		{10, 100, 20, 9, 10}, // at Min
		{9, 100, 20, 8, 10},  // above Min
		{1, 30, 20, 29, 29},  // the upper one is above Max
		{1, 30, 20, 30, 30},
		{1, 30, 20, 31, 30},
		{1, 30, 20, 40, 30},
		{1, 30, 20, 41, 30},
		{1, 40, 20, 41, 40}, // at Max
		{1, 41, 20, 41, 40}, // below Max
		{15, 30, 20, 14, 15},
		{15, 30, 20, 31, 30},
		{15, 30, 20, 22, 22},
		{20, 20, 20, 19, 20}, // but one may be
		{20, 20, 20, 20, 20},
		{20, 20, 20, 21, 20},
		{1, 100, 4, 0, 1}, // bounds of 4: 0 and 8
		{1, 100, 4, 1, 1},
		{1, 100, 4, 9, 8},
		{1, 100, 1, 0, 1}, // of 1: 0 and 5
		{1, 100, 1, 6, 5},
		{1, 100, 100, 49, 50}, // of 100: 50 and 200
		{1, 100, 100, 101, 100},
		{1, room, room, 4999, 5000},
		{1, room, room, 10001, room},
		{1, 100, 20, math.MinInt, 10},
		{1, 100, 20, math.MaxInt, 40},
		{15, 30, 20, math.MinInt, 15},
		{15, 30, 20, math.MaxInt, 30},
	} {
		p := made(t, over(2, x.least, x.most), x.base)
		limits(t, p, x.want, x.n)
	}
}

func TestLimitOfEachWant(t *testing.T) { // 15.2: below, within and above, of bounds within the ends and beyond them
	wants := wildWants()
	for want := -3; want < 130; want++ {
		wants = append(wants, want)
	}
	for _, x := range [][3]int{{1, 100, 20}, {15, 100, 20}, {1, 30, 20}, {15, 30, 20}, {20, 20, 20}, {1, 100, 1}, {1, 100, 100}, {3, 9, 5}, {1, room, 60}} {
		c := over(3, x[0], x[1])
		o := &told{c, []int{x[2]}}
		o.agrees(t, made(t, c, x[2]), wants...)
	}
}

func TestThePeriod(t *testing.T) { // 15.2: of each: fewer than it has, as many, and then the oldest goes
	for period := 1; period <= longest; period++ {
		c := over(period, 1, room)
		p, all := made(t, c, 500), []int{500}
		for i := range 2*period + 3 {
			puts(t, p, 501+i)
			all = append(all, 501+i)
			keeps(t, p, all[max(0, len(all)-period):])
			low, high := reach(c, all[max(0, len(all)-period)])
			limits(t, p, 0, low)
			limits(t, p, room, high)
		}
	}
}

func TestAPeriodOfOne(t *testing.T) { // 15.2: the last count alone
	p := made(t, over(1, 1, 100), 4)
	limits(t, p, 50, 8)
	puts(t, p, 8)
	keeps(t, p, []int{8})
	limits(t, p, 50, 16)
	puts(t, p, 16)
	keeps(t, p, []int{16})
	limits(t, p, 50, 32)
	limits(t, p, 1, 8)
	puts(t, p, 3)
	keeps(t, p, []int{3})
	limits(t, p, 50, 7)
}

func TestAPeriodOfTwo(t *testing.T) { // 15.2: by the count of two epochs ago, not by the last one
	p := made(t, over(2, 1, 100), 4)
	limits(t, p, 50, 8)
	puts(t, p, 8)
	keeps(t, p, []int{4, 8})
	limits(t, p, 50, 8)
	puts(t, p, 8)
	keeps(t, p, []int{8, 8})
	limits(t, p, 50, 16)
	puts(t, p, 16)
	keeps(t, p, []int{8, 16})
	limits(t, p, 50, 16)
	limits(t, p, 1, 4)
	puts(t, p, 4)
	keeps(t, p, []int{16, 4})
	limits(t, p, 4, 8) // half of the 16
}

func TestPutAtTheEdges(t *testing.T) { // 15.2: at Min, at Max, and one beyond on either side, whatever the bounds are
	for _, x := range [][2]int{{1, 100}, {5, 9}, {7, 7}, {1, room}, {room, room}, {1, 1}} {
		for _, period := range []int{1, 2, 5, 60} {
			p, all := made(t, over(period, x[0], x[1]), x[0]), []int{x[0]}
			for range 2 {
				for _, count := range []int{x[0], x[1], (x[0] + x[1]) / 2} {
					puts(t, p, count)
					all = append(all, count)
					keeps(t, p, all[max(0, len(all)-period):])
					refusesPut(t, p, x[0]-1)
					refusesPut(t, p, x[1]+1)
					refusesPut(t, p, x[0]-2)
					refusesPut(t, p, x[1]+2)
				}
			}
			for _, wild := range wildParts() {
				refusesPut(t, p, wild)
			}
		}
	}
}

func TestPutIsNotLimited(t *testing.T) { // 15.2: it may be any count from Min to Max, if Limit lets that or not
	p := made(t, over(2, 1, 100), 4)
	puts(t, p, 100)
	puts(t, p, 1)
	keeps(t, p, []int{100, 1})
	limits(t, p, 1, 50)
	puts(t, p, 1)
	limits(t, p, 50, 5)
}

func TestTheSecondTellingOfAllSmallOnes(t *testing.T) { // 15.2: periods and counts as small as can be, all with all
	for period := 1; period <= 4; period++ {
		for code := range 3 * 3 * 3 * 3 * 3 {
			c := over(period, 4, 12)
			o := &told{c: c}
			var p *Policy
			for range 5 {
				count := 4 * (1 + code%3)
				code /= 3
				o.counts = append(o.counts, count)
				if p == nil {
					p = made(t, c, count)
				} else {
					puts(t, p, count)
				}
				o.agrees(t, p, 0, 3, 4, 5, 8, 11, 12, 13, 99)
			}
		}
	}
}

func TestTheSecondTellingAnywhere(t *testing.T) { // 15.2, T1: counts that come of one another, and any; set in between
	dice := rand.New(rand.NewPCG(15, 2))
	for range 500 {
		c := thrownConf(dice)
		o := &told{c, thrownCounts(dice, c, 1)}
		p := made(t, c, o.counts[0])
		for range 150 {
			want := thrownWant(dice, c)
			o.agrees(t, p, want)
			count := o.limit(want)
			if dice.IntN(3) == 0 {
				count = thrownFrom(dice, c.Min, c.Max)
			}
			puts(t, p, count)
			o.counts = append(o.counts, count)
			if dice.IntN(40) == 0 {
				o.counts = thrownCounts(dice, c, 1+dice.IntN(c.Period))
				sets(t, p, o.counts)
			}
		}
	}
}

func TestSet(t *testing.T) { // 15.2: one, some, as many as each period has, and one more; none never; whatever was there
	for period := 1; period <= longest; period++ {
		p, full := made(t, over(period, 1, room), 9), []int{}
		for i := range period {
			full = append(full, 10+i)
		}
		refusesSet(t, p, nil)
		refusesSet(t, p, []int{})
		sets(t, p, full)
		refusesSet(t, p, nil)
		refusesSet(t, p, full[:0])
		sets(t, p, full[:1])
		sets(t, p, full[period/2:])
		sets(t, p, full)
		sets(t, p, full[:(period+1)/2])
		refusesSet(t, p, append(slices.Clone(full), 5))
		refusesSet(t, p, append([]int{5}, full...))
		refusesSet(t, p, append(slices.Clone(full), full...))
	}
}

func TestSetOfMore(t *testing.T) { // 15.2: than the period has, not than are there, however many more
	for _, period := range []int{1, 2, 3, 30, 59, 60} {
		for _, was := range []int{1, (period + 1) / 2, period} {
			p := set(t, over(period, 1, 100), slices.Repeat([]int{3}, was))
			for _, more := range []int{1, 2, period, 60, 61, 256, 1 << 16} {
				refusesSet(t, p, slices.Repeat([]int{3}, period+more))
			}
			sets(t, p, slices.Repeat([]int{4}, period))
		}
	}
}

func TestSetOfOneThatMayNotBe(t *testing.T) { // 15.2: at any place, with as many as the period has and with fewer, and nothing changes
	for _, period := range []int{1, 2, 5, 60} {
		for _, x := range [][2]int{{1, 100}, {5, 9}, {7, 7}, {1, room}, {room, room}} {
			c := over(period, x[0], x[1])
			p := made(t, c, x[0])
			for _, wild := range append(wildParts(), x[0]-1, x[1]+1) {
				for n := 1; n <= period; n += 1 + n/8 {
					for at := range n {
						l := slices.Repeat([]int{x[1]}, n)
						l[at] = wild
						refusesSet(t, p, l)
					}
				}
				refusesSet(t, p, append(slices.Repeat([]int{x[1]}, period), wild))
			}
			for _, count := range []int{x[0], x[1], (x[0] + x[1]) / 2} {
				for at := range period {
					l := slices.Repeat([]int{x[1]}, period)
					l[at] = count
					sets(t, p, l)
				}
			}
		}
	}
}

func TestBehindSetItGoesOn(t *testing.T) { // 15.2: as one that kept the same by Put
	dice := rand.New(rand.NewPCG(15, 3))
	for range 500 {
		c := thrownConf(dice)
		l := thrownCounts(dice, c, 1+dice.IntN(c.Period))
		a := set(t, c, thrownCounts(dice, c, 1+dice.IntN(c.Period)))
		sets(t, a, l)
		b := made(t, c, l[0])
		for _, count := range l[1:] {
			puts(t, b, count)
		}
		for range 70 {
			keeps(t, a, b.All())
			want := thrownWant(dice, c)
			n := b.Limit(want)
			limits(t, a, want, n)
			puts(t, a, n)
			puts(t, b, n)
		}
	}
}

func TestWhatIsRefusedChangesNothing(t *testing.T) { // 15.2: it goes on as one that nobody tried to put to or to set
	dice := rand.New(rand.NewPCG(15, 4))
	for range 500 {
		c := thrownConf(dice)
		first := thrownFrom(dice, c.Min, c.Max)
		a, b := made(t, c, first), made(t, c, first)
		for range 20 {
			l := thrownCounts(dice, c, 1+dice.IntN(c.Period))
			l[dice.IntN(len(l))] = []int{c.Min - 1, c.Max + 1}[dice.IntN(2)]
			refusesSet(t, a, l)
			refusesSet(t, a, thrownCounts(dice, c, c.Period+1+dice.IntN(3)))
			refusesSet(t, a, nil)
			refusesPut(t, a, c.Min-1-dice.IntN(9))
			refusesPut(t, a, c.Max+1+dice.IntN(9))
			want := thrownWant(dice, c)
			limits(t, a, want, b.Limit(want))
			puts(t, a, a.Limit(want))
			puts(t, b, b.Limit(want))
			keeps(t, a, b.All())
		}
	}
}

// asNil asks that p answers as nil does.
func asNil(t *testing.T, p *Policy) {
	t.Helper()
	for _, n := range append(wildWants(), 1, 4, 100, room) {
		if got := p.Limit(n); got != 0 {
			t.Errorf("Limit(%d) is %d", n, got)
		}
		if code := p.Put(n); code != api.ErrArg {
			t.Errorf("Put(%d) is %d", n, code)
		}
	}
	for _, l := range [][]int{nil, {}, {0}, {1}, {4, 5}, {-1}, {room}, make([]int, 60), make([]int, 61), slices.Repeat([]int{1}, 60)} {
		if code := p.Set(l); code != api.ErrArg {
			t.Errorf("Set(%v) is %d", l, code)
		}
	}
	if base, all := p.Base(), p.All(); base != 0 || len(all) != 0 {
		t.Errorf("Base is %d, All %v", base, all)
	}
}

func TestOfNil(t *testing.T) { // 15.2: 0, nothing, ErrArg, with any arguments
	asNil(t, nil)
}

func TestOfOneThatNewDidNotMake(t *testing.T) { // rule 1: it has no configuration, so no count can be put there
	asNil(t, new(Policy))
}

// higher is counts, or wants, each at least that of l and at most high.
func higher(dice *rand.Rand, l []int, high int) []int {
	more := slices.Clone(l)
	for i, n := range more {
		if dice.IntN(3) > 0 && n < high {
			more[i] = thrownFrom(dice, n, high)
		}
	}
	return more
}

func TestAHigherBaseNeverGivesLowerBounds(t *testing.T) { // 15.3: one by one, of all that may be
	dice := rand.New(rand.NewPCG(15, 5))
	confs := []api.Conf{wide(), rated(1, 1, 1, 1), rated(1000, 1000, 1000, 100), rated(1, 1000, 1, 100), rated(1000, 1, 1000, 1)}
	for range 30 {
		confs = append(confs, thrownConf(dice))
	}
	for _, c := range confs {
		wasLow, wasHigh := 0, 0
		for base := range room + 1 {
			low, high := Bounds(c, base)
			if low < wasLow || high < wasHigh || low > base || high < base {
				t.Fatalf("Bounds(%+v, %d) is %d, %d, behind %d, %d", c, base, low, high, wasLow, wasHigh)
			}
			wasLow, wasHigh = low, high
		}
	}
}

func TestHigherCountsNeverGiveALowerLimit(t *testing.T) { // 15.3: all that are kept at once, and a want that is no lower
	dice := rand.New(rand.NewPCG(15, 6))
	for range 1000 {
		c := thrownConf(dice)
		l := thrownCounts(dice, c, 1+dice.IntN(c.Period))
		a, b := set(t, c, l), set(t, c, higher(dice, l, c.Max))
		for range 20 {
			low := thrownWant(dice, c)
			high := max(low, thrownWant(dice, c))
			for _, x := range [][2]int{{low, low}, {low, high}, {high, high}} {
				if n, m := a.Limit(x[0]), b.Limit(x[1]); n > m {
					t.Fatalf("Limit(%d) behind %v is %d, Limit(%d) behind %v is %d", x[0], a.All(), n, x[1], b.All(), m)
				}
			}
		}
	}
}

func TestAHigherWantNeverGivesALowerLimit(t *testing.T) { // 15.3: one by one, and at the ends
	dice := rand.New(rand.NewPCG(15, 7))
	for range 50 {
		c := thrownConf(dice)
		p := set(t, c, thrownCounts(dice, c, 1+dice.IntN(c.Period)))
		wants := wildWants()
		for want := c.Min - 5; want < c.Min+200; want++ {
			wants = append(wants, want, c.Max-want)
		}
		slices.Sort(wants)
		was := 0
		for _, want := range wants {
			n := p.Limit(want)
			if n < was {
				t.Fatalf("Limit(%d) behind %v is %d, less than %d", want, p.All(), n, was)
			}
			was = n
		}
	}
}

func TestBetweenTheLeastAndTheGreatest(t *testing.T) { // 15.3, T2: who is wanted anything between two others counts something between these, epoch by epoch
	dice := rand.New(rand.NewPCG(15, 8))
	for range 300 {
		c := thrownConf(dice)
		counts := thrownCounts(dice, c, 3)
		slices.Sort(counts)
		var policies [3]*Policy
		for i := range policies {
			policies[i] = made(t, c, counts[i])
		}
		for range 150 {
			wants := []int{thrownWant(dice, c), thrownWant(dice, c), thrownWant(dice, c)}
			slices.Sort(wants)
			for i, p := range policies {
				counts[i] = p.Limit(wants[i])
				puts(t, p, counts[i])
			}
			if !slices.IsSorted(counts) {
				t.Fatalf("%+v: the counts are %v", c, counts)
			}
		}
	}
}

func TestNeverFasterThanTheRates(t *testing.T) { // T5: what is told is within Bounds of the count a period ago, and within Min and Max, wherever it is wanted
	dice := rand.New(rand.NewPCG(15, 9))
	for range 300 {
		c := thrownConf(dice)
		counts := thrownCounts(dice, c, 1)
		p := made(t, c, counts[0])
		for range 150 {
			n := p.Limit(thrownWant(dice, c))
			low, high := Bounds(c, counts[max(0, len(counts)-c.Period)])
			if n < low || n > high || n < c.Min || n > c.Max {
				t.Fatalf("%+v: behind %v it is %d, not from %d to %d", c, counts, n, low, high)
			}
			puts(t, p, n)
			counts = append(counts, n)
		}
	}
}

func TestWhatIsWantedWithinStays(t *testing.T) { // T5: the count of a period ago may always be kept, and with a period of one so may the last
	dice := rand.New(rand.NewPCG(15, 10))
	for range 500 {
		c := thrownConf(dice)
		p := set(t, c, thrownCounts(dice, c, 1+dice.IntN(c.Period)))
		limits(t, p, p.Base(), p.Base())
		c.Period = 1
		p = made(t, c, c.Min)
		for range 20 {
			n := thrownFrom(dice, c.Min, c.Max)
			puts(t, p, n)
			limits(t, p, n, n)
		}
	}
}

func TestHowLongItTakes(t *testing.T) { // T5: it doubles once a period, up to Max, and halves so down to Min
	for period := 1; period <= longest; period++ {
		p := made(t, over(period, 4, 64), 4)
		for _, n := range []int{8, 16, 32, 64, 64} {
			for range period {
				limits(t, p, 1000000, n)
				puts(t, p, n)
			}
		}
		for _, n := range []int{32, 16, 8, 4, 4} {
			for range period {
				limits(t, p, 0, n)
				puts(t, p, n)
			}
		}
	}
}

// roomy is a copy of l, with numbers behind it in the room that it has.
func roomy(l []int) []int { return append(slices.Clone(l), 77, -77, room+1)[:len(l)] }

func TestWhatIsHandedInStays(t *testing.T) { // rule 2: with what stands behind it, whether it is kept or not, and whatever comes behind it
	for _, l := range [][]int{nil, {}, {5}, {5, 3}, {9, 3, 5}, {9, 3, 5, 4}, {0}, {3, 101}, {3, -1, 5}, {1, 2, 3, 4, 5}} {
		in := roomy(l)
		was := slices.Clone(in[:cap(in)])
		p := made(t, over(3, 1, 100), 6)
		p.Set(in)
		for want := range 9 {
			puts(t, p, p.Limit(want))
			p.All()
		}
		p.Set(in)
		if !slices.Equal(in[:cap(in)], was) {
			t.Errorf("%v was changed to %v", was, in[:cap(in)])
		}
	}
}

func TestWhatWasSetMayBeChanged(t *testing.T) { // rule 2: it is not kept, nor what stands behind it
	for n := 1; n < 5; n++ {
		l := roomy([]int{9, 3, 5, 4}[:n])
		p := set(t, over(4, 1, 100), l)
		was := slices.Clone(l)
		for i := range l[:cap(l)] {
			l[:cap(l)][i] = room + 5
		}
		keeps(t, p, was)
		limits(t, p, 100, 18)
		puts(t, p, 6)
		keeps(t, p, append(was, 6)[max(0, n-3):])
	}
}

func TestWhatWasToldIsTheCallers(t *testing.T) { // rule 2: what is kept stays when it is changed, and no answer shares with another
	for n := range 6 {
		p := made(t, over(4, 1, 100), 9)
		for i := range n {
			puts(t, p, 10+i)
		}
		was := p.All()
		one, two := p.All(), p.All()
		for i := range one[:cap(one)] {
			one[:cap(one)][i] = -9
		}
		one = append(one, 1, 2, 3)
		if len(one) < 3 || !slices.Equal(two, was) {
			t.Errorf("%v was changed to %v", was, two)
		}
		keeps(t, p, was)
		limits(t, p, 100, 2*was[0])
	}
}

func TestWhatWasToldStays(t *testing.T) { // rule 2: also when other counts are kept by then
	p := set(t, over(4, 1, 100), []int{9, 3, 5, 4})
	told := p.All()
	puts(t, p, 7)
	sets(t, p, []int{1, 1, 1, 1})
	sets(t, p, []int{2})
	if !slices.Equal(told, []int{9, 3, 5, 4}) {
		t.Errorf("what was told is now %v", told)
	}
}

func TestSetOfWhatItTold(t *testing.T) { // rule 2: of another's and of its own
	c := over(4, 1, 100)
	a, b := set(t, c, []int{9, 3, 5, 4}), made(t, c, 1)
	all := a.All()
	sets(t, a, all)
	sets(t, b, all)
	puts(t, a, 8)
	keeps(t, a, []int{3, 5, 4, 8})
	keeps(t, b, []int{9, 3, 5, 4})
	puts(t, b, 7)
	keeps(t, b, []int{3, 5, 4, 7})
	keeps(t, a, []int{3, 5, 4, 8})
}

func TestTwoPolicies(t *testing.T) { // rule 3: each has its own, of its own configuration
	a, b := made(t, over(3, 1, 100), 5), made(t, over(2, 3, 12), 7)
	puts(t, a, 9)
	keeps(t, b, []int{7})
	puts(t, b, 8)
	puts(t, b, 10)
	keeps(t, b, []int{8, 10})
	keeps(t, a, []int{5, 9})
	limits(t, a, 100, 10)
	limits(t, b, 100, 12)
	limits(t, a, 0, 1)
	limits(t, b, 0, 4)
	sets(t, a, []int{1, 2, 3})
	keeps(t, b, []int{8, 10})
	refusesSet(t, b, []int{8, 9, 10})
	keeps(t, a, []int{1, 2, 3})
}

func TestTheSameEachTime(t *testing.T) { // rule 3: the same calls give the same answers, whatever others do with their Policies
	dice := rand.New(rand.NewPCG(15, 11))
	var wants, answers []int
	c := over(7, 2, 90)
	p := made(t, c, 4)
	for i := range 500 {
		wants = append(wants, thrownWant(dice, c))
		answers = append(answers, p.Limit(wants[i]))
		puts(t, p, answers[i])
	}
	var policies sync.WaitGroup
	for range 16 {
		policies.Go(func() {
			q := New(c, 4)
			for i, want := range wants {
				if n := q.Limit(want); n != answers[i] || q.Put(n) != api.OK {
					t.Error("what is told hangs on more than the calls")
				}
			}
			if !slices.Equal(p.All(), q.All()) {
				t.Error("what is kept hangs on more than the calls")
			}
		})
	}
	policies.Wait()
}

func TestAskedByManyAtOnce(t *testing.T) { // rule 3: what only tells may be asked at one time
	p := set(t, over(4, 1, 100), []int{9, 3, 5, 4})
	var asking sync.WaitGroup
	for range 16 {
		asking.Go(func() {
			for range 100 {
				if all := p.All(); !slices.Equal(all, []int{9, 3, 5, 4}) || p.Base() != 9 || p.Limit(100) != 18 {
					t.Errorf("All is %v", all)
				}
			}
		})
	}
	asking.Wait()
}
