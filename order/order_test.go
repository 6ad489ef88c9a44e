package order

import (
	"math"
	"math/rand/v2"
	"slices"
	"sync"
	"testing"
)

const (
	least    = math.MinInt64
	greatest = math.MaxInt64
)

// ends are numbers at the ends of their kind, and where a smaller kind, or a float, would take two for one.
func ends() []int64 {
	return []int64{least, least + 1, -1<<53 - 1, -1 << 53, -1<<32 - 1, -1 << 32, -1 << 31, -256, -2, -1, 0, 1, 2, 255, 1 << 31, 1 << 32, 1<<32 + 1, 1 << 53, 1<<53 + 1, greatest - 1, greatest}
}

// row is a row and, written by hand, its numbers by size.
type row struct{ l, by []int64 }

// rows are rows of each sort: without a number, with one, with equal ones, with the least and the greatest, and in each order.
func rows() []row {
	return []row{
		{nil, nil},
		{[]int64{}, nil},
		{[]int64{0}, []int64{0}},
		{[]int64{-7}, []int64{-7}},
		{[]int64{least}, []int64{least}},
		{[]int64{greatest}, []int64{greatest}},
		{[]int64{5, 3}, []int64{3, 5}},
		{[]int64{3, 5}, []int64{3, 5}},
		{[]int64{4, 4}, []int64{4, 4}},
		{[]int64{5, 3, 5}, []int64{3, 5, 5}},
		{[]int64{3, 5, 3}, []int64{3, 3, 5}},
		{[]int64{1, 5, 100}, []int64{1, 5, 100}},
		{[]int64{100, 5, 1}, []int64{1, 5, 100}},
		{[]int64{7, 7, 7, 7}, []int64{7, 7, 7, 7}},
		{[]int64{1, -1, 10, -10, 0}, []int64{-10, -1, 0, 1, 10}},
		{[]int64{greatest, least}, []int64{least, greatest}},
		{[]int64{greatest, 0, least, -1, greatest, least, 1}, []int64{least, least, -1, 0, 1, greatest, greatest}},
		{[]int64{greatest, greatest - 1, least + 1, least}, []int64{least, least + 1, greatest - 1, greatest}},
		{[]int64{1<<53 + 1, 1 << 53, -1 << 53, -1<<53 - 1}, []int64{-1<<53 - 1, -1 << 53, 1 << 53, 1<<53 + 1}},
		{[]int64{1<<32 + 1, 2, 1 << 31, -1 << 31, -1<<32 - 1, -2}, []int64{-1<<32 - 1, -1 << 31, -2, 2, 1 << 31, 1<<32 + 1}},
		{[]int64{9, 2, 8, 1, 7, 3, 6, 4, 5, 0, 10, 12, 11, 13}, []int64{0, 1, 2, 3, 4, 5, 6, 7, 8, 9, 10, 11, 12, 13}},
	}
}

// told is a second telling of Sort: each number has its place by how many go ahead of it, the smaller ones and the equal ones that stand further ahead.
func told(l []int64) []int64 {
	by := make([]int64, len(l))
	for i, v := range l {
		place := 0
		for j, n := range l {
			if n < v || n == v && j < i {
				place++
			}
		}
		by[place] = v
	}
	return by
}

// often is a second telling of a row without its order: each number, and how often.
func often(l []int64) map[int64]int {
	m := map[int64]int{}
	for _, v := range l {
		m[v]++
	}
	return m
}

// alike is whether two rows have the same numbers by often.
func alike(a, b []int64) bool {
	m := often(a)
	for v, n := range often(b) {
		if m[v] != n {
			return false
		}
	}
	return len(a) == len(b)
}

// places are places that no row of n numbers has.
func places(n int) []int {
	return []int{math.MinInt, math.MinInt + 1, -1 << 32, -1<<32 + 1, -1 << 31, -256, -n - 1, -n, -2, -1, n, n + 1, 2 * n, 1<<31 + n, 1<<32 + n, 1 << 32, 1<<32 + 1, 1 << 40, math.MaxInt - 1, math.MaxInt}
}

// orders are all orders of a row's numbers.
func orders(l []int64) [][]int64 {
	if len(l) == 0 {
		return [][]int64{nil}
	}
	var all [][]int64
	for i, v := range l {
		rest := slices.Concat(l[:i], l[i+1:])
		for _, o := range orders(rest) {
			all = append(all, append([]int64{v}, o...))
		}
	}
	return all
}

// small are all rows of up to most numbers from -1 to 1.
func small(most int) [][]int64 {
	all := [][]int64{nil}
	for from := 0; len(all[from]) < most; from++ {
		for v := int64(-1); v <= 1; v++ {
			all = append(all, append(slices.Clone(all[from]), v))
		}
	}
	return all
}

// thrown is a row of n numbers, in any order, of up to kinds that are unlike.
func thrown(dice *rand.Rand, n, kinds int) []int64 {
	known := make([]int64, kinds)
	for i := range known {
		known[i] = int64(dice.Uint64())
		if dice.IntN(4) == 0 {
			known[i] = ends()[dice.IntN(len(ends()))]
		}
	}
	l := make([]int64, n)
	for i := range l {
		l[i] = known[dice.IntN(kinds)]
	}
	return l
}

// sorts asks that Sort tells by of l.
func sorts(t *testing.T, l, by []int64) {
	t.Helper()
	if got := Sort(l); !slices.Equal(got, by) {
		t.Errorf("Sort(%v) is %v, not %v", l, got, by)
	}
}

// ranks asks that Rank tells n of l and v.
func ranks(t *testing.T, l []int64, v int64, n int) {
	t.Helper()
	if got := Rank(l, v); got != n {
		t.Errorf("Rank(%v, %d) is %d, not %d", l, v, got, n)
	}
}

// stands asks that v stands at the place k of l.
func stands(t *testing.T, l []int64, k int, v int64) {
	t.Helper()
	if got, ok := At(l, k); got != v || !ok {
		t.Errorf("At(%v, %d) is %d, %v, not %d", l, k, got, ok, v)
	}
}

// lacks asks that l has no place k.
func lacks(t *testing.T, l []int64, k int) {
	t.Helper()
	if got, ok := At(l, k); got != 0 || ok {
		t.Errorf("At(%v, %d) is %d, %v", l, k, got, ok)
	}
}

// same asks that Same tells is of a and b, either way about.
func same(t *testing.T, a, b []int64, is bool) {
	t.Helper()
	if Same(a, b) != is || Same(b, a) != is {
		t.Errorf("Same of %v and %v is %v, and %v the other way about", a, b, Same(a, b), Same(b, a))
	}
}

// unites asks that Union tells by of a and b, either way about.
func unites(t *testing.T, a, b, by []int64) {
	t.Helper()
	if got := Union(a, b); !slices.Equal(got, by) {
		t.Errorf("Union(%v, %v) is %v, not %v", a, b, got, by)
	}
	if got := Union(b, a); !slices.Equal(got, by) {
		t.Errorf("Union(%v, %v) is %v, not %v", b, a, got, by)
	}
}

func TestExample(t *testing.T) { // the chapter's
	stands(t, []int64{5, 3}, 0, 3)
}

func TestSort(t *testing.T) { // 9.1: each number as often as it was, equal ones too
	for _, r := range rows() {
		sorts(t, r.l, r.by)
	}
}

func TestSortOfEachLength(t *testing.T) { // 9.1: with few kinds of numbers, and with many
	dice := rand.New(rand.NewPCG(9, 1))
	for n := range 130 {
		for _, kinds := range []int{1, 2, 3, n/2 + 1, 2*n + 1} {
			l := thrown(dice, n, kinds)
			sorts(t, l, told(l))
		}
	}
}

// long are rows of the n numbers from 0 on: rising, falling, with its halves changed about, up and down again, and thrown about.
func long(n int) [][]int64 {
	up := make([]int64, n)
	hill := make([]int64, n) // 0, 2, 4 .. 5, 3, 1
	for i := range n {
		up[i] = int64(i)
		hill[i] = int64(min(2*i, 2*(n-i)-1))
	}
	falling, about := slices.Clone(up), slices.Clone(up)
	slices.Reverse(falling)
	dice := rand.New(rand.NewPCG(9, 2))
	dice.Shuffle(n, func(i, j int) { about[i], about[j] = about[j], about[i] })
	return [][]int64{up, falling, slices.Concat(up[n/2:], up[:n/2]), hill, about}
}

func TestOfLongRows(t *testing.T) { // 9.1
	const n = 100000
	l := long(n)
	up := l[0]
	for i, a := range l {
		if !slices.Equal(Sort(a), up) {
			t.Errorf("Sort of the long row %d is not rising", i)
		}
		if got := Union(a[n/3:], a[:n/3]); !slices.Equal(got, up) {
			t.Errorf("Union of the parts of the long row %d is not rising", i)
		}
		if !Same(a, up) || Same(a, a[1:]) {
			t.Errorf("Same of the long row %d", i)
		}
		for _, k := range []int{0, 1, n / 2, n - 1} {
			if v, ok := At(a, k); v != int64(k) || !ok {
				t.Errorf("At(.., %d) of the long row %d is %d, %v", k, i, v, ok)
			}
			if got := Rank(a, int64(k)); got != k {
				t.Errorf("Rank(.., %d) of the long row %d is %d", k, i, got)
			}
		}
		if got := Rank(a, n); got != n {
			t.Errorf("Rank(.., %d) of the long row %d is %d", n, i, got)
		}
	}
}

func TestRank(t *testing.T) { // 9.1: of numbers that are there, next to those, and at the ends
	for _, r := range rows() {
		for _, v := range slices.Concat(ends(), r.l) {
			for _, v := range []int64{v - 1, v, v + 1} { // which may wrap round, and then are other ends
				n := 0
				for n < len(r.by) && r.by[n] < v {
					n++
				}
				ranks(t, r.l, v, n)
			}
		}
	}
}

func TestRankByHand(t *testing.T) { // 9.1: equal ones are not below, nor is anything below the least
	l := []int64{5, 3, 9, 5, -2}
	for _, x := range []struct {
		v int64
		n int
	}{{least, 0}, {-3, 0}, {-2, 0}, {-1, 1}, {0, 1}, {3, 1}, {4, 2}, {5, 2}, {6, 4}, {9, 4}, {10, 5}, {greatest, 5}} {
		ranks(t, l, x.v, x.n)
	}
	ranks(t, []int64{least, greatest}, least, 0)
	ranks(t, []int64{least, greatest}, least+1, 1)
	ranks(t, []int64{least, greatest}, greatest, 1)
	ranks(t, []int64{greatest, greatest}, greatest, 0)
	ranks(t, []int64{least, least}, greatest, 2)
	ranks(t, nil, greatest, 0)
	ranks(t, []int64{}, 0, 0)
}

func TestAt(t *testing.T) { // 9.1: each place that there is, and none besides
	for _, r := range rows() {
		for k, v := range r.by {
			stands(t, r.l, k, v)
		}
		for _, k := range places(len(r.l)) {
			if k < 0 || k >= len(r.l) {
				lacks(t, r.l, k)
			}
		}
	}
}

func TestAtTheEdges(t *testing.T) { // 9.1: a nought that stands there is told beside true
	l := []int64{8, 0, 4}
	stands(t, l, 0, 0)
	stands(t, l, 2, 8)
	lacks(t, l, 3)
	lacks(t, l, -1)
	lacks(t, l, math.MinInt)
	lacks(t, l, math.MaxInt)
	stands(t, []int64{6}, 0, 6)
	lacks(t, []int64{6}, 1)
	lacks(t, nil, 0)
	lacks(t, []int64{}, 0)
	lacks(t, nil, -1)
}

func TestAtIsBySortAndRank(t *testing.T) { // 9.1: the three tell of one order
	dice := rand.New(rand.NewPCG(9, 3))
	for n := range 60 {
		l := thrown(dice, n, n/3+1)
		by := Sort(l)
		for k, v := range by {
			stands(t, l, k, v)
			first := slices.Index(by, v)
			ranks(t, l, v, first)
			stands(t, l, Rank(l, v), v)
		}
		lacks(t, l, n)
		lacks(t, l, -1)
	}
}

func TestSame(t *testing.T) { // 9.1: in whatever order, each just as often
	for _, x := range []struct {
		a, b []int64
		is   bool
	}{
		{nil, nil, true},
		{nil, []int64{}, true},
		{[]int64{}, []int64{}, true},
		{nil, []int64{0}, false},
		{[]int64{}, []int64{0}, false},
		{[]int64{1}, []int64{1}, true},
		{[]int64{1}, []int64{2}, false},
		{[]int64{1}, []int64{-1}, false},
		{[]int64{1, 2}, []int64{2, 1}, true},
		{[]int64{1, 2}, []int64{1, 2, 2}, false}, // of unlike lengths
		{[]int64{1, 2}, []int64{1, 2, 3}, false},
		{[]int64{1, 2}, []int64{0, 1, 2}, false},
		{[]int64{1, 1, 2}, []int64{1, 2, 2}, false}, // the same numbers, unlike often
		{[]int64{1, 1, 2}, []int64{2, 1, 1}, true},
		{[]int64{5, 3, 5, 3}, []int64{5, 5, 3, 3}, true},
		{[]int64{5, 3, 5, 3}, []int64{5, 5, 5, 3}, false},
		{[]int64{0, 0}, []int64{1, 1}, false},
		{[]int64{1, 4}, []int64{2, 3}, false}, // with one sum
		{[]int64{1, 5, 6}, []int64{2, 3, 7}, false},
		{[]int64{1, 6, 6}, []int64{2, 3, 12}, false}, // and with one product
		{[]int64{1, 2, 9}, []int64{1, 3, 9}, false},  // but for the middle
		{[]int64{least, greatest}, []int64{greatest, least}, true},
		{[]int64{least}, []int64{greatest}, false},
		{[]int64{least, least}, []int64{0, 0}, false}, // whose sums wrap round to one
		{[]int64{1 << 53}, []int64{1<<53 + 1}, false},
		{[]int64{1}, []int64{1<<32 + 1}, false},
	} {
		same(t, x.a, x.b, x.is)
	}
}

func TestSameOfAllSmallRows(t *testing.T) { // 9.1
	for _, a := range small(4) {
		for _, b := range small(4) {
			same(t, a, b, alike(a, b))
		}
	}
}

func TestSameButForOne(t *testing.T) { // 9.1: at each place a number more, less or another is found
	dice := rand.New(rand.NewPCG(9, 4))
	for n := 1; n <= 40; n++ {
		l := thrown(dice, n, n)
		about := slices.Clone(l)
		dice.Shuffle(n, func(i, j int) { about[i], about[j] = about[j], about[i] })
		same(t, l, about, true)
		for i := range n {
			other := slices.Clone(about)
			other[i]++
			same(t, l, other, false)
			same(t, l, slices.Concat(about[:i], about[i+1:]), false)
			same(t, l, append(slices.Clone(about), about[i]), false)
		}
	}
}

func TestUnion(t *testing.T) { // 9.1: both together, none left out that is in both
	for _, x := range []struct{ a, b, by []int64 }{
		{nil, nil, nil},
		{nil, []int64{}, nil},
		{nil, []int64{5, 3}, []int64{3, 5}},
		{[]int64{}, []int64{5, 3, 5}, []int64{3, 5, 5}},
		{[]int64{2}, []int64{1}, []int64{1, 2}},
		{[]int64{2}, []int64{2}, []int64{2, 2}},
		{[]int64{5, 3}, []int64{4}, []int64{3, 4, 5}},
		{[]int64{9, 1}, []int64{8, 2, 5}, []int64{1, 2, 5, 8, 9}},
		{[]int64{1, 1, 2}, []int64{2, 1}, []int64{1, 1, 1, 2, 2}},
		{[]int64{1, 2, 3}, []int64{-1, -2, -3}, []int64{-3, -2, -1, 1, 2, 3}},
		{[]int64{greatest, 0, least}, []int64{least, greatest}, []int64{least, least, 0, greatest, greatest}},
	} {
		unites(t, x.a, x.b, x.by)
	}
}

func TestUnionWithNothing(t *testing.T) { // 9.1: it is Sort then
	for _, r := range rows() {
		unites(t, r.l, nil, r.by)
		unites(t, r.l, []int64{}, r.by)
	}
}

func TestUnionOfAllRows(t *testing.T) { // 9.1
	for _, a := range rows() {
		for _, b := range rows() {
			unites(t, a.l, b.l, told(slices.Concat(a.l, b.l)))
		}
	}
	for _, a := range small(4) {
		for _, b := range small(3) {
			unites(t, a, b, told(slices.Concat(a, b)))
		}
	}
}

func TestAnyOrderAnyAnswer(t *testing.T) { // 9.2: of the orders of a row each has the same answers
	for _, l := range [][]int64{nil, {7}, {1, 2}, {4, 4}, {3, 1, 2}, {3, 1, 3}, {greatest, least, 0, -1}, {5, 3, 5, 3}, {1, 2, 3, 4, 5}, {2, 9, 2, 7, 9, 2}} {
		by, both := told(l), told(slices.Concat(l, []int64{4, 0}))
		for _, o := range orders(l) {
			sorts(t, o, by)
			same(t, o, l, true)
			same(t, o, append([]int64{4}, l...), false)
			for k := range l {
				other := slices.Clone(l)
				other[k]++
				same(t, o, other, false)
			}
			unites(t, o, []int64{4, 0}, both)
			for k := range l {
				stands(t, o, k, by[k])
			}
			lacks(t, o, len(l))
			for _, v := range append([]int64{4, greatest}, l...) {
				ranks(t, o, v, Rank(by, v))
			}
		}
	}
}

func TestWhoCameFirst(t *testing.T) { // 9.2: nor in long rows, nor among many that are equal
	dice := rand.New(rand.NewPCG(9, 5))
	for round := range 300 {
		n := 1 + dice.IntN(300)
		l := thrown(dice, n, 1+dice.IntN(n))
		o := slices.Clone(l)
		dice.Shuffle(n, func(i, j int) { o[i], o[j] = o[j], o[i] })
		k, v, cut := dice.IntN(n), l[dice.IntN(n)], dice.IntN(n)
		one, _ := At(l, k)
		two, _ := At(o, k)
		if !slices.Equal(Sort(l), Sort(o)) || one != two || Rank(l, v) != Rank(o, v) || !Same(l, o) {
			t.Errorf("in round %d the order of %d numbers changes an answer", round, n)
		}
		if !slices.Equal(Union(l[:cut], l[cut:]), Union(o[cut:], o[:cut])) {
			t.Errorf("in round %d the order of %d numbers changes their Union", round, n)
		}
	}
}

func TestWhatSomeSayLiesBetweenTheOthers(t *testing.T) { // 9.2, T2: if f say anything whatever, the places but f at each end stay among what the others say
	dice := rand.New(rand.NewPCG(9, 6))
	for round := range 2000 {
		f := dice.IntN(6)
		honest := thrown(dice, 2*f+1+dice.IntN(8), 5)
		by := told(honest)
		l := append(thrown(dice, f, 3), honest...)
		dice.Shuffle(len(l), func(i, j int) { l[i], l[j] = l[j], l[i] })
		for k := f; k < len(l)-f; k++ {
			v, ok := At(l, k)
			if !ok || v < by[0] || v > by[len(by)-1] {
				t.Fatalf("in round %d the place %d of %v is %d, %v, beyond those of %v", round, k, l, v, ok, by)
			}
		}
	}
}

// roomy is a copy of l, with numbers behind it in the room that it has.
func roomy(l []int64) []int64 {
	return append(slices.Clone(l), 77, -77, 78)[:len(l)]
}

// whole is all that stands in l's room.
func whole(l []int64) []int64 { return slices.Clone(l[:cap(l)]) }

func TestWhatIsHandedInStays(t *testing.T) { // rule 2: and what stands behind it
	for _, r := range rows() {
		for _, o := range [][]int64{nil, {}, {4}, {9, -9, 0}} {
			a, b := roomy(r.l), roomy(o)
			wholeA, wholeB := whole(a), whole(b)
			Sort(a)
			Rank(a, 4)
			At(a, len(a)/2)
			At(a, len(a))
			Same(a, b)
			Same(a, slices.Clone(a))
			Same(b, a)
			Union(a, b)
			Union(b, a)
			if !slices.Equal(whole(a), wholeA) || !slices.Equal(whole(b), wholeB) {
				t.Errorf("%v and %v were changed to %v and %v", wholeA, wholeB, whole(a), whole(b))
			}
		}
	}
}

// own asks that an answer shares nothing with what was handed in: whatever is done to one is not to be seen in the other.
func own(t *testing.T, what string, answer []int64, in ...[]int64) {
	t.Helper()
	var were [][]int64
	for _, l := range in {
		were = append(were, whole(l))
	}
	spoil(answer)
	for i, l := range in {
		if !slices.Equal(whole(l), were[i]) {
			t.Errorf("%s: what is done to the answer changes %v to %v", what, were[i], whole(l))
		}
	}
	was := whole(answer)
	for _, l := range in {
		spoil(l)
	}
	if !slices.Equal(whole(answer), was) {
		t.Errorf("%s: what is done to what was handed in changes %v to %v", what, was, whole(answer))
	}
}

// spoil changes all that stands in l's room.
func spoil(l []int64) {
	for i := range l[:cap(l)] {
		l[:cap(l)][i] ^= 0x55
	}
}

func TestAnswersAreTheCallersOwn(t *testing.T) { // 9.1: rows that stand in their order already, too, and with an empty one
	for _, r := range rows() {
		a := roomy(r.l)
		own(t, "Sort", Sort(a), a)
		a = roomy(r.by)
		own(t, "Sort of a rising row", Sort(a), a)
		for _, o := range [][]int64{nil, {}, {4}, {9, -9, 0}} {
			a, b := roomy(r.by), roomy(o)
			own(t, "Union", Union(a, b), a, b)
			a, b = roomy(r.by), roomy(o)
			own(t, "Union", Union(b, a), a, b)
		}
		a = roomy(r.l)
		own(t, "Union with itself", Union(a, a), a)
	}
}

func TestTwoAnswersShareNothing(t *testing.T) { // 9.1: of two calls each has its own
	for _, r := range rows() {
		own(t, "Sort twice", Sort(r.l), Sort(r.l))
		own(t, "Union twice", Union(r.l, r.by), Union(r.l, r.by))
	}
}

func TestNothingIsKept(t *testing.T) { // rule 3: what was asked ahead changes no answer
	l := []int64{5, 3, 9, 5}
	for range 100 {
		sorts(t, l, []int64{3, 5, 5, 9})
		ranks(t, l, 6, 3)
		ranks(t, []int64{8}, 6, 0)
		stands(t, l, 3, 9)
		lacks(t, l, 4)
		same(t, l, []int64{9, 5, 3, 5}, true)
		same(t, l, []int64{9, 3, 3, 5}, false)
		unites(t, l, []int64{4}, []int64{3, 4, 5, 5, 9})
	}
}

func TestTheSameEachTime(t *testing.T) { // 9.1: what others ask at one time, of the same row, changes no answer
	l := long(1000)[4]
	by := told(l)
	var all sync.WaitGroup
	for range 16 {
		all.Go(func() {
			for k := range 100 {
				v, ok := At(l, 10*k)
				if v != by[10*k] || !ok || Rank(l, v) != 10*k {
					t.Errorf("At(.., %d) is %d, %v, of the Rank %d", 10*k, v, ok, Rank(l, v))
				}
			}
			if !slices.Equal(Sort(l), by) || !slices.Equal(Union(l[500:], l[:500]), by) || !Same(by, l) {
				t.Error("it is another order")
			}
		})
	}
	all.Wait()
}
