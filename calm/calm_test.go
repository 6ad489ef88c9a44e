package calm

import (
	"math"
	"math/rand/v2"
	"slices"
	"sync"
	"testing"

	"quorumite/api"
)

const (
	longest = 60
	million = 1000000
)

// wildWindows are numbers that no window may be: next to those that may, at the ends of 64 bits, and where a smaller kind would take them for one.
func wildWindows() []int {
	return []int{-1, -2, -59, -60, -61, -128, -256, -256 + 5, -1 << 16, -1 << 31, -1 << 32, -1<<32 + 3, -1 << 62, math.MinInt + 1, math.MinInt, 61, 62, 63, 64, 100, 127, 128, 255, 256, 257, 256 + 60, 1 << 16, 1<<16 + 1, 1 << 31, 1 << 32, 1<<32 + 3, 1 << 62, math.MaxInt - 1, math.MaxInt}
}

// wildWants are numbers that no want may be: Next takes them for the nearest one, Set refuses them.
func wildWants() []int {
	return []int{-1, -2, -5, -million, -million - 1, -1 << 31, -1 << 32, -1<<32 + 5, -1 << 62, math.MinInt + 1, math.MinInt, million + 1, million + 2, 2 * million, 1<<31 - 1, 1 << 31, 1 << 32, 1<<32 + 5, 1 << 62, math.MaxInt - 1, math.MaxInt}
}

// tameWants are wants of each sort, at both ends and where a smaller kind would end.
func tameWants() []int {
	return []int{0, 1, 2, 5, 127, 128, 255, 256, 32767, 32768, 65535, 65536, 999999, million}
}

// made is a Calm of windows of which it is known that they may be.
func made(t *testing.T, up, down int) *Calm {
	t.Helper()
	c := New(up, down)
	if c == nil {
		t.Fatalf("New(%d, %d) is nil", up, down)
	}
	return c
}

// set is a Calm that keeps l.
func set(t *testing.T, up, down int, l []int) *Calm {
	t.Helper()
	c := made(t, up, down)
	sets(t, c, l)
	return c
}

// sets sets c, which must go.
func sets(t *testing.T, c *Calm, l []int) {
	t.Helper()
	if code := c.Set(l); code != api.OK {
		t.Fatalf("Set(%v) is %d", l, code)
	}
	keeps(t, c, l)
}

// keeps holds All against what is asked for.
func keeps(t *testing.T, c *Calm, l []int) {
	t.Helper()
	if all := c.All(); !slices.Equal(all, l) {
		t.Fatalf("All is %v, not %v", all, l)
	}
}

// gives asks that Next tells n.
func gives(t *testing.T, c *Calm, count, want, n int) {
	t.Helper()
	was := c.All()
	if got := c.Next(count, want); got != n {
		t.Fatalf("Next(%d, %d) behind %v is %d, not %d", count, want, was, got, n)
	}
}

// refuses asks that Set doesn't take l, and that nothing changes by it.
func refuses(t *testing.T, c *Calm, l []int) {
	t.Helper()
	was := c.All()
	if code := c.Set(l); code != api.ErrArg {
		t.Errorf("Set of %d, %v, is %d", len(l), l, code)
	}
	keeps(t, c, was)
}

// room is how many wants are kept at most, told a second time.
func room(up, down int) int {
	if up > down {
		return 1 + up
	}
	return 1 + down
}

// tail is the last n of l, or all of a shorter one.
func tail(l []int, n int) []int {
	if len(l) > n {
		return l[len(l)-n:]
	}
	return l
}

// nearest is the number from 0 to a million that is nearest to n.
func nearest(n int) int {
	switch {
	case n > million:
		return million
	case n < 0:
		return 0
	}
	return n
}

// told is a second telling of a Calm: it keeps all that ever was wanted.
type told struct {
	up, down int
	wanted   []int
}

// reached is whether what comes behind count is at least x: one of the last down and one wanted as much, and either count is as much or all of the last up and one wanted it.
func (o *told) reached(count, x int) bool {
	less := func(want int) bool { return want < x }
	some := slices.ContainsFunc(tail(o.wanted, o.down+1), func(want int) bool { return !less(want) })
	return some && (count >= x || !slices.ContainsFunc(tail(o.wanted, o.up+1), less))
}

// next is Next: the greatest number that is reached, which is always one that was wanted, or the count.
func (o *told) next(count, want int) int {
	o.wanted = append(o.wanted, nearest(want))
	most := 0
	for _, x := range append([]int{nearest(count)}, o.wanted...) {
		if x > most && o.reached(nearest(count), x) {
			most = x
		}
	}
	return most
}

// agrees asks that c goes as the second telling does, and keeps what that tells.
func (o *told) agrees(t *testing.T, c *Calm, count, want int) int {
	t.Helper()
	n := o.next(count, want)
	gives(t, c, count, want, n)
	keeps(t, c, tail(o.wanted, room(o.up, o.down)))
	return n
}

// thrown is a count or a want, small as a rule, sometimes one that may not be.
func thrown(dice *rand.Rand) int {
	switch dice.IntN(12) {
	case 0:
		return wildWants()[dice.IntN(len(wildWants()))]
	case 1:
		return tameWants()[dice.IntN(len(tameWants()))]
	case 2:
		return dice.IntN(million + 1)
	}
	return dice.IntN(9)
}

// thrownWants are n wants that may be.
func thrownWants(dice *rand.Rand, n int) []int {
	var l []int
	for range n {
		l = append(l, nearest(thrown(dice)))
	}
	return l
}

// windows are windows to go with: none, short ones, the longest.
func windows() []int { return []int{0, 1, 2, 3, 7, 30, 59, 60} }

// rows calls f with each row of n numbers from 0 to below each. The row is the same memory each time.
func rows(n, each int, f func(l []int)) {
	l := make([]int, n)
	var from func(i int)
	from = func(i int) {
		if i == n {
			f(l)
			return
		}
		for l[i] = range each {
			from(i + 1)
		}
	}
	from(0)
}

func TestNewAtTheEdges(t *testing.T) { // 14.1: each from 0 to 60 with each, and one beyond on either side; nothing is kept at first
	for up := -2; up <= longest+2; up++ {
		for down := -2; down <= longest+2; down++ {
			c := New(up, down)
			if is := up >= 0 && up < 61 && down >= 0 && down < 61; is != (c != nil) {
				t.Fatalf("New(%d, %d) is %v", up, down, c)
			} else if is {
				keeps(t, c, nil)
			}
		}
	}
}

func TestNewOfWhatMayNotBe(t *testing.T) { // 14.1: alone and together
	for _, wild := range wildWindows() {
		for tame := range longest + 1 {
			if New(wild, tame) != nil || New(tame, wild) != nil {
				t.Errorf("there is a Calm of %d and %d", wild, tame)
			}
		}
		for _, other := range wildWindows() {
			if New(wild, other) != nil {
				t.Errorf("there is a Calm of %d and %d", wild, other)
			}
		}
	}
}

func TestExample(t *testing.T) { // the chapter's, and the document's sixth: up 0, down 1; the third want lets it go down
	c := made(t, 0, 1)
	gives(t, c, 5, 5, 5)
	gives(t, c, 5, 2, 5)
	gives(t, c, 5, 2, 2)
}

// step is an epoch told by hand.
type step struct{ count, want, n int }

// goes asks that a Calm of these windows goes so.
func goes(t *testing.T, up, down int, steps ...step) *Calm {
	t.Helper()
	c := made(t, up, down)
	for _, s := range steps {
		gives(t, c, s.count, s.want, s.n)
	}
	return c
}

func TestWithoutWindows(t *testing.T) { // 14.1: up and down 0: what is wanted comes
	goes(t, 0, 0, step{5, 5, 5}, step{5, 9, 9}, step{9, 1, 1}, step{1, 0, 0}, step{0, million, million}, step{million, 3, 3}, step{7, 3, 3}, step{0, 3, 3}, step{3, 3, 3})
}

func TestUp(t *testing.T) { // 14.1: the least of the last three, of fewer those that are there, is how far it goes up; down it goes at once
	goes(t, 2, 0,
		step{4, 6, 6}, // the first epoch: none ahead of it says less
		step{6, 9, 6},
		step{6, 8, 6}, // 6, 9, 8
		step{6, 7, 7}, // 9, 8, 7
		step{7, 9, 7}, // 8, 7, 9
		step{7, 9, 7},
		step{7, 9, 9}, // 9, 9, 9
		step{9, 2, 2},
		step{2, 9, 2},
		step{2, 9, 2},
		step{2, 5, 5}, // 9, 9, 5
		step{2, 9, 5}, // 9, 5, 9
		step{2, 9, 5},
		step{2, 9, 9},
		step{9, 8, 8})
}

func TestDown(t *testing.T) { // 14.1: the greatest of the last three is how far it goes down; up it goes at once
	goes(t, 0, 2,
		step{6, 4, 4}, // the first epoch: none ahead of it says more
		step{4, 2, 4},
		step{4, 3, 4}, // 4, 2, 3
		step{4, 1, 3}, // 2, 3, 1
		step{3, 1, 3}, // 3, 1, 1
		step{3, 1, 1},
		step{1, 8, 8},
		step{8, 0, 8},
		step{8, 0, 8},
		step{8, 5, 5}, // 0, 0, 5
		step{8, 0, 5}, // 0, 5, 0
		step{8, 0, 5},
		step{8, 0, 0},
		step{0, 1, 1})
}

func TestUpAboveDown(t *testing.T) { // 14.1: each by its own window, the longer one is kept
	c := goes(t, 3, 1,
		step{5, 5, 5},
		step{5, 3, 5}, // down: 5, 3
		step{5, 3, 3},
		step{3, 9, 3}, // up: 5, 3, 3, 9
		step{3, 9, 3}, // up: 3, 3, 9, 9
		step{3, 9, 3}, // up: 3, 9, 9, 9
		step{3, 8, 8}, // up: 9, 9, 9, 8
		step{9, 2, 8}, // down: 8, 2; up: 9, 9, 8, 2
		step{9, 4, 4}, // down: 2, 4, below the count
		step{3, 4, 3}, // within both
		step{1, 6, 2}, // up: 2, 4, 4, 6
	)
	keeps(t, c, []int{2, 4, 4, 6})
}

func TestDownAboveUp(t *testing.T) { // 14.1
	c := goes(t, 1, 3,
		step{5, 5, 5},
		step{5, 7, 5}, // up: 5, 7
		step{5, 7, 7},
		step{7, 1, 7}, // down: 5, 7, 7, 1
		step{7, 1, 7}, // down: 7, 7, 1, 1
		step{7, 1, 7}, // down: 7, 1, 1, 1
		step{7, 2, 2}, // down: 1, 1, 1, 2
		step{1, 8, 2}, // up: 2, 8; down: 1, 1, 2, 8
		step{1, 6, 6}, // up: 8, 6, above the count
		step{7, 6, 7}, // within both
		step{9, 4, 8}, // down: 8, 6, 6, 4
	)
	keeps(t, c, []int{8, 6, 6, 4})
}

func TestBothTheSame(t *testing.T) { // 14.1: between the least and the greatest of the last two the count stays
	c := goes(t, 1, 1,
		step{5, 4, 4},
		step{4, 8, 4},
		step{5, 8, 8},
		step{8, 3, 8},
		step{8, 7, 7},
		step{7, 3, 7},
		step{2, 6, 3},
		step{5, 9, 6},
		step{7, 6, 7},
		step{9, 9, 9},
		step{10, 6, 9})
	keeps(t, c, []int{9, 6})
}

func TestCountWithinBelowAndAbove(t *testing.T) { // 14.1: of each pair of windows, with a least of 10 and a greatest of 20
	for _, up := range windows() {
		for _, down := range windows() {
			for count := range 31 {
				l := slices.Repeat([]int{15}, room(up, down))
				c := set(t, up, down, l)
				gives(t, c, count, 15, 15)
				if up == 0 || down == 0 {
					continue
				}
				l[len(l)-1] = 20
				sets(t, c, l)
				gives(t, c, count, 10, max(10, min(20, count))) // both wants are in both windows
			}
		}
	}
}

// asked is which want a window of epochs ends on: the one of age and one epochs ago, one that came behind it, or just now's.
func asked(epochs, age, first, behind, now int) int {
	switch {
	case epochs > age:
		return first
	case epochs > 0:
		return behind
	}
	return now
}

func TestWhichWantsAreAsked(t *testing.T) { // 14.1: of each window the oldest that it has still counts, and the one ahead of that doesn't
	for up := range longest + 1 {
		for down := range longest + 1 {
			for age := range room(up, down) + 2 {
				l := tail(append([]int{3}, slices.Repeat([]int{500}, age)...), room(up, down))
				gives(t, set(t, up, down, l), 2, 600, asked(up, age, 3, 500, 600))
				l = tail(append([]int{700}, slices.Repeat([]int{500}, age)...), room(up, down))
				gives(t, set(t, up, down, l), 701, 400, asked(down, age, 700, 500, 400))
			}
		}
	}
}

func TestHowManyAreKept(t *testing.T) { // 14.1: as many as the greater of up and down, and one: fewer, as many, and then the oldest goes
	for up := range longest + 1 {
		for down := range longest + 1 {
			c, n := made(t, up, down), max(up, down)+1
			for i := range n + 3 {
				c.Next(i%7, 1000+i)
				all := c.All()
				if len(all) != min(n, i+1) || all[0] != 1000+max(0, i+1-n) || all[len(all)-1] != 1000+i {
					t.Fatalf("up %d, down %d: behind %d it keeps %v", up, down, i+1, all)
				}
			}
		}
	}
}

func TestAll(t *testing.T) { // 14.1: none, some, as many as are kept; the oldest first, whatever Next told
	c := made(t, 2, 1)
	keeps(t, c, nil)
	for i, x := range []struct {
		want int
		all  []int
	}{{7, []int{7}}, {3, []int{7, 3}}, {9, []int{7, 3, 9}}, {9, []int{3, 9, 9}}, {0, []int{9, 9, 0}}, {1, []int{9, 0, 1}}, {0, []int{0, 1, 0}}, {0, []int{1, 0, 0}}, {0, []int{0, 0, 0}}} {
		c.Next(i, x.want)
		keeps(t, c, x.all)
		keeps(t, c, x.all) // asking changes nothing
	}
}

func TestCountsAndWantsAtTheirEnds(t *testing.T) { // 14.1: at 0, at a million, and one beyond: as the end
	for _, x := range []struct{ is, as int }{{-1, 0}, {0, 0}, {1, 1}, {999999, 999999}, {million, million}, {million + 1, million}} {
		c := made(t, 0, 0)
		gives(t, c, 5, x.is, x.as)
		keeps(t, c, []int{x.as})
		for up, down := range []int{0, 1} { // with a window for one of them only
			c = set(t, 1-up, down, []int{0})
			gives(t, c, x.is, million, []int{x.as, million}[up])
			c = set(t, 1-up, down, []int{million})
			gives(t, c, x.is, 0, []int{0, x.as}[up])
		}
		c = set(t, 1, 1, []int{million})
		gives(t, c, x.is, 0, x.as) // between 0 and a million each count stays
		c = set(t, 1, 1, []int{0})
		gives(t, c, x.is, million, x.as)
		c = set(t, 1, 1, []int{3})
		gives(t, c, x.is, 8, max(3, min(8, x.as)))
	}
}

func TestCountsAndWantsBeyond(t *testing.T) { // 14.1: each as the end that it is beyond, the ends of 64 bits too
	for _, wild := range wildWants() {
		as := 0
		if wild > 0 {
			as = million
		}
		for _, up := range windows() {
			for _, down := range windows() {
				for _, l := range [][]int{nil, {5}, {million}, {0}} {
					a, b := set(t, up, down, l), set(t, up, down, l)
					gives(t, a, wild, 7, b.Next(as, 7))
					gives(t, a, 7, wild, b.Next(7, as))
					gives(t, a, wild, wild, b.Next(as, as))
					keeps(t, a, b.All())
				}
			}
		}
		c := made(t, 0, 0)
		gives(t, c, 5, wild, as)
		keeps(t, c, []int{as})
	}
	for _, count := range wildWants() {
		for _, want := range wildWants() {
			gives(t, set(t, 1, 1, []int{4}), count, want, max(min(4, nearest(want)), min(max(4, nearest(want)), nearest(count))))
		}
	}
}

func TestTheSecondTellingOfAllSmallOnes(t *testing.T) { // 14.1: windows, wants and counts as small as can be, all with all
	for up := range 4 {
		for down := range 4 {
			rows(5, 3, func(l []int) {
				for count := range 3 {
					c, o := made(t, up, down), &told{up: up, down: down}
					for _, want := range l {
						o.agrees(t, c, count, want)
					}
				}
			})
		}
	}
}

func TestTheSecondTellingAnywhere(t *testing.T) { // 14.1, T1: of each pair of windows; counts that come of one another, and any; set in between
	dice := rand.New(rand.NewPCG(14, 1))
	for up := range longest + 1 {
		for down := range longest + 1 {
			c, o, count := made(t, up, down), &told{up: up, down: down}, 4
			for range 150 {
				if dice.IntN(3) == 0 {
					count = thrown(dice)
				}
				if dice.IntN(60) == 0 {
					o.wanted = thrownWants(dice, dice.IntN(room(up, down)+1))
					sets(t, c, o.wanted)
				}
				count = o.agrees(t, c, count, thrown(dice))
			}
		}
	}
}

func TestSet(t *testing.T) { // 14.1: none, some, as many as are kept, of each pair of windows; whatever was there
	for up := range longest + 1 {
		for down := range longest + 1 {
			c, full := made(t, up, down), []int{}
			for i := range room(up, down) {
				full = append(full, 10*i)
			}
			sets(t, c, full)
			sets(t, c, nil)
			sets(t, c, full[:1])
			sets(t, c, full)
			sets(t, c, full[len(full)/2:])
			sets(t, c, []int{})
			sets(t, c, full[:len(full)/2])
			refuses(t, c, append(slices.Clone(full), 5))
			refuses(t, c, append([]int{5}, full...))
			refuses(t, c, append(slices.Clone(full), full...))
		}
	}
}

func TestSetOfOneMore(t *testing.T) { // 14.1: than are kept, not than are there; of any wants, however many more
	for _, up := range windows() {
		for _, down := range windows() {
			n := room(up, down)
			for _, was := range []int{0, 1, n} {
				c := set(t, up, down, slices.Repeat([]int{3}, was))
				for _, more := range []int{1, 2, n, 61, 62, 256, 1 << 16} {
					refuses(t, c, slices.Repeat([]int{3}, n+more))
					refuses(t, c, slices.Repeat([]int{0}, n+more))
				}
				sets(t, c, slices.Repeat([]int{4}, n))
			}
		}
	}
}

func TestSetOfEachWant(t *testing.T) { // 14.1: from 0 to a million, at any place
	for _, want := range tameWants() {
		for n := 1; n <= 5; n++ {
			for at := range n {
				l := slices.Repeat([]int{7}, n)
				l[at] = want
				sets(t, made(t, 4, 1), l)
				sets(t, made(t, 1, 4), l)
			}
		}
	}
}

func TestSetOfOneThatMayNotBe(t *testing.T) { // 14.1: at any place, with as many as are kept and with fewer, and nothing changes
	for _, wild := range wildWants() {
		for _, x := range [][2]int{{0, 0}, {0, 3}, {3, 0}, {2, 2}, {60, 5}, {5, 60}} {
			up, down := x[0], x[1]
			c := made(t, up, down)
			for n := 1; n <= room(up, down); n++ {
				for at := range n {
					l := slices.Repeat([]int{7}, n)
					l[at] = wild
					refuses(t, c, l)
				}
			}
			sets(t, c, slices.Repeat([]int{8}, room(up, down)))
			refuses(t, c, []int{wild})
			l := slices.Repeat([]int{7}, room(up, down)+1)
			refuses(t, c, l)
			l[len(l)-1] = wild
			refuses(t, c, l)
			l[0] = wild
			refuses(t, c, l)
		}
	}
}

func TestWhatIsRefusedChangesNothing(t *testing.T) { // 14.1: it goes on as one that nobody tried to set
	dice := rand.New(rand.NewPCG(14, 2))
	for range 2000 {
		up, down := windows()[dice.IntN(8)], windows()[dice.IntN(8)]
		a, b, count := made(t, up, down), made(t, up, down), 4
		for range 20 {
			l := thrownWants(dice, 1+dice.IntN(room(up, down)))
			if dice.IntN(2) == 0 {
				l = thrownWants(dice, room(up, down)+1+dice.IntN(3))
			} else {
				l[dice.IntN(len(l))] = wildWants()[dice.IntN(len(wildWants()))]
			}
			refuses(t, a, l)
			want := thrown(dice)
			n := b.Next(count, want)
			gives(t, a, count, want, n)
			count = n
		}
		keeps(t, a, b.All())
	}
}

func TestBehindASetItGoesOn(t *testing.T) { // 14.1: as one that kept the same, whatever either kept ahead of that
	dice := rand.New(rand.NewPCG(14, 3))
	for range 3000 {
		up, down := windows()[dice.IntN(8)], windows()[dice.IntN(8)]
		a, b := made(t, up, down), made(t, up, down)
		for range dice.IntN(80) {
			a.Next(thrown(dice), thrown(dice))
		}
		for range dice.IntN(80) {
			b.Next(thrown(dice), thrown(dice))
		}
		sets(t, b, a.All())
		count := 4
		for range 70 {
			want := thrown(dice)
			n := a.Next(count, want)
			gives(t, b, count, want, n)
			keeps(t, b, a.All())
			count = n
		}
	}
}

func TestSetIsAsWanted(t *testing.T) { // 14.1: what is set counts as if it had been wanted one by one, and what was there ahead of it doesn't
	dice := rand.New(rand.NewPCG(14, 4))
	for range 3000 {
		up, down := windows()[dice.IntN(8)], windows()[dice.IntN(8)]
		a := set(t, up, down, slices.Repeat([]int{million}, dice.IntN(room(up, down)+1)))
		l := thrownWants(dice, dice.IntN(room(up, down)+1))
		sets(t, a, l)
		b := made(t, up, down)
		for _, want := range l {
			b.Next(thrown(dice), want)
		}
		for range 70 {
			count, want := thrown(dice), thrown(dice)
			gives(t, a, count, want, b.Next(count, want))
			keeps(t, a, b.All())
		}
	}
}

func TestOfNil(t *testing.T) { // 14.1: 0, nothing, ErrArg, with any arguments
	var c *Calm
	for _, n := range slices.Concat(tameWants(), wildWants()) {
		for _, m := range slices.Concat(tameWants(), wildWants()) {
			if got := c.Next(n, m); got != 0 {
				t.Errorf("Next(%d, %d) is %d", n, m, got)
			}
		}
	}
	if all := c.All(); len(all) != 0 {
		t.Errorf("All is %v", all)
	}
	for _, l := range [][]int{nil, {}, {0}, {5}, {-1}, {million}, make([]int, 61), make([]int, 62)} {
		if code := c.Set(l); code != api.ErrArg {
			t.Errorf("Set(%v) is %d", l, code)
		}
	}
}

func TestOfOneThatNewDidNotMake(t *testing.T) { // rule 1: it has no windows
	var c Calm
	keeps(t, &c, nil)
	gives(t, &c, 5, 9, 9)
	gives(t, &c, 9, 2, 2)
	keeps(t, &c, []int{2})
	sets(t, &c, []int{7})
	refuses(t, &c, []int{7, 7})
	gives(t, &c, -5, million+1, million)
}

// above asks that b, which is wanted and given at least what a is, tells no less.
func above(t *testing.T, a, b *Calm, few, many, low, high int) (int, int) {
	t.Helper()
	was, wasMore := a.All(), b.All()
	n, m := a.Next(few, low), b.Next(many, high)
	if n > m {
		t.Fatalf("Next(%d, %d) behind %v is %d, Next(%d, %d) behind %v is %d", few, low, was, n, many, high, wasMore, m)
	}
	return n, m
}

func TestMoreWantedNeverGivesLessOfAllSmallOnes(t *testing.T) { // 14.2: all rows of four wants with all that are at least these, and counts likewise
	for up := range 4 {
		for down := range 4 {
			rows(4, 3, func(l []int) {
				rows(4, 3, func(more []int) {
					for i := range l {
						if more[i] < l[i] {
							return
						}
					}
					for few := range 3 {
						for many := few; many < 3; many++ {
							a, b := set(t, up, down, tail(l[:3], room(up, down))), set(t, up, down, tail(more[:3], room(up, down)))
							above(t, a, b, few, many, l[3], more[3])
						}
					}
				})
			})
		}
	}
}

func TestMoreWantedNeverGivesLess(t *testing.T) { // 14.2, T2: at any place of either window; a greater count doesn't either
	dice := rand.New(rand.NewPCG(14, 5))
	for up := range longest + 1 {
		for down := range longest + 1 {
			a, b, few, many := made(t, up, down), made(t, up, down), 4, 4
			for range 70 {
				low, high := thrown(dice), thrown(dice)
				if dice.IntN(2) == 0 {
					high = low
				}
				few, many = above(t, a, b, few, many, min(low, high), max(low, high))
				switch dice.IntN(8) {
				case 0:
					many += dice.IntN(3)
				case 1:
					few, many = thrown(dice), thrown(dice)
					few, many = min(few, many), max(few, many)
				}
			}
		}
	}
}

func TestOneMoreOfOneWantNeverGivesLess(t *testing.T) { // 14.2: one want alone is greater, of each age, and stays kept
	dice := rand.New(rand.NewPCG(14, 6))
	for _, up := range windows() {
		for _, down := range windows() {
			for at := range room(up, down) {
				l := thrownWants(dice, room(up, down))
				more := slices.Clone(l)
				more[at] = nearest(more[at] + 1 + dice.IntN(9))
				a, b := set(t, up, down, l), set(t, up, down, more)
				few, many := 4, 4
				for range room(up, down) + 1 {
					want := thrown(dice)
					few, many = above(t, a, b, few, many, want, want)
				}
			}
		}
	}
}

func TestAGreaterCountNeverGivesLess(t *testing.T) { // 14.2: one by one, below, within and above both bounds, and at the ends
	dice := rand.New(rand.NewPCG(14, 7))
	counts := slices.Concat(wildWants(), tameWants())
	for n := range 40 {
		counts = append(counts, n)
	}
	slices.Sort(counts)
	for range 300 {
		up, down := dice.IntN(6), dice.IntN(6)
		l := []int{}
		for range room(up, down) {
			l = append(l, dice.IntN(40))
		}
		want, was := dice.IntN(40), 0
		for _, count := range counts {
			n := set(t, up, down, l).Next(count, want)
			if n < was {
				t.Fatalf("Next(%d, %d) behind %v is %d, less than %d", count, want, l, n, was)
			}
			was = n
		}
	}
}

func TestAGreaterWantNeverGivesLess(t *testing.T) { // 14.2: the one of now, one by one
	dice := rand.New(rand.NewPCG(14, 8))
	for range 300 {
		up, down := dice.IntN(6), dice.IntN(6)
		l := []int{}
		for range room(up, down) {
			l = append(l, dice.IntN(40))
		}
		count, was := dice.IntN(40), 0
		for want := -2; want < 50; want++ {
			n := set(t, up, down, l).Next(count, want)
			if n < was {
				t.Fatalf("Next(%d, %d) behind %v is %d, less than %d", count, want, l, n, was)
			}
			was = n
		}
	}
}

func TestBetweenTheLeastAndTheGreatest(t *testing.T) { // T2: who is wanted anything between two others is told something between these
	dice := rand.New(rand.NewPCG(14, 9))
	for range 500 {
		up, down := windows()[dice.IntN(8)], windows()[dice.IntN(8)]
		var calms [3]*Calm
		counts := [3]int{4, 4, 4}
		for i := range calms {
			calms[i] = made(t, up, down)
		}
		for range 100 {
			wants := []int{thrown(dice), thrown(dice), thrown(dice)}
			slices.Sort(wants)
			for i, c := range calms {
				counts[i] = c.Next(counts[i], wants[i])
			}
			if !slices.IsSorted(counts[:]) {
				t.Fatalf("up %d, down %d: the counts are %v", up, down, counts)
			}
		}
	}
}

func TestWhoIsWantedStays(t *testing.T) { // T5: if just as many are wanted as are there, the count stays, whatever was wanted ahead
	dice := rand.New(rand.NewPCG(14, 10))
	for up := range longest + 1 {
		for down := range longest + 1 {
			c := set(t, up, down, thrownWants(dice, room(up, down)))
			for range 5 {
				n := nearest(thrown(dice))
				gives(t, c, n, n, n)
			}
			for range 5 {
				gives(t, c, 8, 8, 8)
			}
			for _, n := range tameWants() {
				gives(t, c, n, n, n)
			}
		}
	}
}

func TestItNeverGoesTheWrongWay(t *testing.T) { // T5: more are wanted than are there: not fewer come, nor more than wanted; and the other way round
	dice := rand.New(rand.NewPCG(14, 11))
	for range 500 {
		up, down := windows()[dice.IntN(8)], windows()[dice.IntN(8)]
		c := made(t, up, down)
		for range 100 {
			count, want := nearest(thrown(dice)), nearest(thrown(dice))
			n := c.Next(count, want)
			if n < min(count, want) || n > max(count, want) {
				t.Fatalf("up %d, down %d: Next(%d, %d) behind %v is %d", up, down, count, want, c.All(), n)
			}
		}
	}
}

func TestToAndFro(t *testing.T) { // T5: what is wanted goes up and down within both windows: the count stays
	for _, up := range windows()[1:] {
		for _, down := range windows()[1:] {
			c := set(t, up, down, []int{3, 7})
			for i := range 200 {
				gives(t, c, 5, 3+4*(i%2), 5)
			}
		}
	}
}

func TestHowLongItWaits(t *testing.T) { // 14.1: as many epochs as the window says, and then it goes
	for up := range longest + 1 {
		for down := range longest + 1 {
			c := made(t, up, down)
			gives(t, c, 5, 5, 5)
			for range up {
				gives(t, c, 5, 9, 5)
			}
			gives(t, c, 5, 9, 9)
			for range down {
				c.Next(9, 9)
			}
			for range down {
				gives(t, c, 9, 2, 9)
			}
			gives(t, c, 9, 2, 2)
		}
	}
}

// roomy is a copy of l, with numbers behind it in the room that it has.
func roomy(l []int) []int { return append(slices.Clone(l), 77, -77, million+1)[:len(l)] }

func TestWhatIsHandedInStays(t *testing.T) { // rule 2: with what stands behind it, whether it is kept or not, and whatever comes behind it
	for _, l := range [][]int{nil, {}, {5}, {5, 3}, {9, 3, 5}, {9, 3, 5, 4}, {-1}, {3, million + 1}, {3, -1, 5}, {1, 2, 3, 4, 5}} {
		in := roomy(l)
		was := slices.Clone(in[:cap(in)])
		c := made(t, 2, 3)
		c.Set(in)
		for want := range 9 {
			c.Next(4, want)
			c.All()
		}
		c.Set(in)
		if !slices.Equal(in[:cap(in)], was) {
			t.Errorf("%v was changed to %v", was, in[:cap(in)])
		}
	}
}

func TestWhatWasSetMayBeChanged(t *testing.T) { // rule 2: it is not kept, nor what stands behind it
	for n := range 5 {
		l := roomy([]int{9, 3, 5, 4}[:n])
		c := set(t, 1, 3, l)
		was := slices.Clone(l)
		for i := range l[:cap(l)] {
			l[:cap(l)][i] = million + 5
		}
		keeps(t, c, was)
		gives(t, c, 6, 6, set(t, 1, 3, was).Next(6, 6))
		keeps(t, c, tail(append(was, 6), 4))
	}
}

func TestWhatWasToldIsTheCallers(t *testing.T) { // rule 2: what is kept stays when it is changed, and no answer shares with another
	for n := range 6 {
		c := made(t, 1, 3)
		for i := range n {
			c.Next(4, 10+i)
		}
		was := c.All()
		one, two := c.All(), c.All()
		for i := range one[:cap(one)] {
			one[:cap(one)][i] = -9
		}
		one = append(one, 1, 2, 3)
		if len(one) < 3 || !slices.Equal(two, was) {
			t.Errorf("%v was changed to %v", was, two)
		}
		keeps(t, c, was)
		gives(t, c, 6, 6, set(t, 1, 3, was).Next(6, 6))
	}
}

func TestWhatWasToldStays(t *testing.T) { // rule 2: also when other wants are kept by then
	c := set(t, 3, 1, []int{9, 3, 5, 4})
	told := c.All()
	c.Next(4, 7)
	sets(t, c, []int{1, 1, 1, 1})
	sets(t, c, nil)
	if !slices.Equal(told, []int{9, 3, 5, 4}) {
		t.Errorf("what was told is now %v", told)
	}
}

func TestSetOfWhatItTold(t *testing.T) { // rule 2: of another's and of its own
	a, b := set(t, 3, 1, []int{9, 3, 5, 4}), made(t, 3, 1)
	all := a.All()
	sets(t, a, all)
	sets(t, b, all)
	gives(t, a, 2, 8, 3)
	keeps(t, b, []int{9, 3, 5, 4})
	gives(t, b, 2, 8, 3)
	keeps(t, a, []int{3, 5, 4, 8})
}

func TestTwoCalms(t *testing.T) { // rule 3: each has its own
	a, b := made(t, 1, 2), made(t, 1, 2)
	gives(t, a, 5, 9, 9)
	keeps(t, b, nil)
	gives(t, b, 5, 2, 2)
	keeps(t, a, []int{9})
	sets(t, a, []int{1, 2, 3})
	keeps(t, b, []int{2})
	refuses(t, b, []int{1, 2, 3, 4})
	keeps(t, a, []int{1, 2, 3})
}

func TestTheSameEachTime(t *testing.T) { // rule 3: the same calls give the same answers, whatever others do with their Calms
	dice := rand.New(rand.NewPCG(14, 12))
	var wants, answers []int
	c := made(t, 7, 30)
	for i := range 500 {
		wants = append(wants, thrown(dice))
		answers = append(answers, c.Next(i%9, wants[i]))
	}
	var calms sync.WaitGroup
	for range 16 {
		calms.Go(func() {
			d := New(7, 30)
			for i, want := range wants {
				if d.Next(i%9, want) != answers[i] {
					t.Error("what is told hangs on more than the calls")
				}
			}
			if !slices.Equal(c.All(), d.All()) {
				t.Error("what is kept hangs on more than the calls")
			}
		})
	}
	calms.Wait()
}

func TestAskedByManyAtOnce(t *testing.T) { // rule 3: what only tells may be asked at one time
	c := set(t, 3, 1, []int{9, 3, 5, 4})
	var asking sync.WaitGroup
	for range 16 {
		asking.Go(func() {
			for range 100 {
				if all := c.All(); !slices.Equal(all, []int{9, 3, 5, 4}) {
					t.Errorf("All is %v", all)
				}
			}
		})
	}
	asking.Wait()
}
