package trim

import (
	"math"
	"math/big"
	"math/rand/v2"
	"slices"
	"sync"
	"testing"

	"quorumite/api"
)

const most = api.MaxValue

// wild are numbers that nobody may say: next to those that may be said, at the ends of 64 bits, and where a smaller kind, or a float, would take them for others.
func wild() []int64 {
	return []int64{-1, -2, -5, -100, -255, -256, -1 << 31, -1 << 32, -1<<32 + 5, -1 << 40, -1<<40 - 1, -1 << 53, math.MinInt64 + 1, math.MinInt64, most + 1, most + 2, most + 5, 2 * most, 1 << 42, 1<<48 + 3, 1 << 53, 1 << 62, math.MaxInt64 - 1, math.MaxInt64}
}

// tame are numbers that may be said, at both ends and where a smaller kind would end.
func tame() []int64 {
	return []int64{0, 1, 2, 127, 128, 255, 256, 1<<31 - 1, 1 << 31, 1<<32 - 1, 1 << 32, 1<<32 + 1, 1 << 39, most - 2, most - 1, most}
}

// ends are trims that leave nothing of any row, at the ends of their kind and where a smaller kind, or twice of them, would be another.
func ends() []int {
	return []int{math.MinInt, math.MinInt + 1, -1 << 62, -1<<62 + 1, -1 << 32, -1<<32 + 1, -1 << 31, -1000, -500, -256, -3, -2, -1, 1000, 1001, 1 << 31, 1<<31 + 1, 1 << 32, 1<<32 + 1, 1 << 40, 1<<62 - 1, 1 << 62, 1<<62 + 1, math.MaxInt - 1, math.MaxInt}
}

// span is what is told of a row by one trim.
type span struct{ mean, low, high int64 }

// row is a row and, written by hand, its median and what is told of it by the trims 0, 1, 2 .. that leave some.
type row struct {
	l      []int64
	median int64
	by     []span
}

// rows are rows of each sort: with one number and two, even and odd ones, equal ones, those at the ends, and in each order.
func rows() []row {
	return []row{
		{[]int64{0}, 0, []span{{0, 0, 0}}},
		{[]int64{7}, 7, []span{{7, 7, 7}}},
		{[]int64{most}, most, []span{{most, most, most}}},
		{[]int64{3, 5}, 3, []span{{4, 3, 5}}},
		{[]int64{5, 3}, 3, []span{{4, 3, 5}}},
		{[]int64{4, 7}, 4, []span{{5, 4, 7}}},
		{[]int64{0, 1}, 0, []span{{0, 0, 1}}},
		{[]int64{6, 6}, 6, []span{{6, 6, 6}}},
		{[]int64{0, most}, 0, []span{{most / 2, 0, most}}},
		{[]int64{most, most}, most, []span{{most, most, most}}},
		{[]int64{most, most - 1}, most - 1, []span{{most - 1, most - 1, most}}},
		{[]int64{1, 5, 100}, 5, []span{{35, 1, 100}, {5, 5, 5}}},
		{[]int64{100, 1, 5}, 5, []span{{35, 1, 100}, {5, 5, 5}}},
		{[]int64{5, 100, 1}, 5, []span{{35, 1, 100}, {5, 5, 5}}},
		{[]int64{0, 0, 1}, 0, []span{{0, 0, 1}, {0, 0, 0}}},
		{[]int64{0, 1, 1}, 1, []span{{0, 0, 1}, {1, 1, 1}}},
		{[]int64{1, 1, 0}, 1, []span{{0, 0, 1}, {1, 1, 1}}},
		{[]int64{2, 9, 2}, 2, []span{{4, 2, 9}, {2, 2, 2}}},
		{[]int64{9, 2, 9}, 9, []span{{6, 2, 9}, {9, 9, 9}}},
		{[]int64{most, 0, most}, most, []span{{2 * most / 3, 0, most}, {most, most, most}}},
		{[]int64{40, 10, 30, 20}, 20, []span{{25, 10, 40}, {25, 20, 30}}},
		{[]int64{1, 2, 4, 1000}, 2, []span{{251, 1, 1000}, {3, 2, 4}}},
		{[]int64{1000, 1100, 900, 5000}, 1000, []span{{2000, 900, 5000}, {1050, 1000, 1100}}},
		{[]int64{8, 8, 8, 8}, 8, []span{{8, 8, 8}, {8, 8, 8}}},
		{[]int64{8, 3, 8, 3}, 3, []span{{5, 3, 8}, {5, 3, 8}}},
		{[]int64{0, most, 0, most}, 0, []span{{most / 2, 0, most}, {most / 2, 0, most}}},
		{[]int64{5, 1, 4, 2, 3}, 3, []span{{3, 1, 5}, {3, 2, 4}, {3, 3, 3}}},
		{[]int64{0, 0, 7, 9, most}, 7, []span{{(most + 16) / 5, 0, most}, {5, 0, 9}, {7, 7, 7}}},
		{[]int64{2, 2, 2, 2, 11}, 2, []span{{3, 2, 11}, {2, 2, 2}, {2, 2, 2}}},
		{[]int64{60, 10, 50, 20, 41, 30}, 30, []span{{35, 10, 60}, {35, 20, 50}, {35, 30, 41}}},
		{[]int64{1, 2, 3, 5, 8, 13, 21}, 5, []span{{7, 1, 21}, {6, 2, 13}, {5, 3, 8}, {5, 5, 5}}},
		{[]int64{9, 2, 8, 1, 7, 3, 6, 4, 5, 10}, 5, []span{{5, 1, 10}, {5, 2, 9}, {5, 3, 8}, {5, 4, 7}, {5, 5, 6}}},
	}
}

// fair is whether each number of l may be said, and there are not too many.
func fair(l []int64) bool {
	for _, v := range l {
		if v < 0 || v > 1099511627776 {
			return false
		}
	}
	return len(l) < 1001
}

// middle is a second telling of Median: the number that has no more below it than go ahead of the middle, and enough with those that equal it.
func middle(l []int64) (int64, bool) {
	if !fair(l) {
		return 0, false
	}
	for _, v := range l {
		below, upTo := 0, 0
		for _, n := range l {
			if n < v {
				below++
			}
			if n <= v {
				upTo++
			}
		}
		if k := (len(l) - 1) / 2; below <= k && k < upTo {
			return v, true
		}
	}
	return 0, false
}

// cut is l without one of the numbers that no other goes ahead of.
func cut(l []int64, ahead func(a, b int64) bool) []int64 {
	at := 0
	for i, v := range l {
		if ahead(v, l[at]) {
			at = i
		}
	}
	return slices.Concat(l[:at], l[at+1:])
}

// others is a second telling of what is left: f times the least goes, and f times the greatest, one by one.
func others(l []int64, f int) []int64 {
	if !fair(l) || f < 0 || f > len(l) {
		return nil
	}
	for range f {
		if len(l) < 2 {
			return nil
		}
		l = cut(l, func(a, b int64) bool { return a < b })
		l = cut(l, func(a, b int64) bool { return a > b })
	}
	return l
}

// told is a second telling of Mean and of Span.
func told(l []int64, f int) (span, bool) {
	l = others(l, f)
	if len(l) == 0 {
		return span{}, false
	}
	sum := new(big.Int)
	s := span{low: l[0], high: l[0]}
	for _, v := range l {
		sum.Add(sum, big.NewInt(v))
		s.low, s.high = min(s.low, v), max(s.high, v)
	}
	s.mean = sum.Div(sum, big.NewInt(int64(len(l)))).Int64()
	return s, true
}

// middles asks that v is l's Median.
func middles(t *testing.T, l []int64, v int64) {
	t.Helper()
	if got, ok := Median(l); got != v || !ok {
		t.Errorf("Median(%v) is %d, %v, not %d", l, got, ok, v)
	}
}

// lacks asks that l has no Median.
func lacks(t *testing.T, l []int64) {
	t.Helper()
	if got, ok := Median(l); got != 0 || ok {
		t.Errorf("Median of %d numbers, %v, is %d, %v", len(l), head(l), got, ok)
	}
}

// leaves asks that Mean and Span tell s of l without f at each end.
func leaves(t *testing.T, l []int64, f int, s span) {
	t.Helper()
	if got, ok := Mean(l, f); got != s.mean || !ok {
		t.Errorf("Mean(%v, %d) is %d, %v, not %d", head(l), f, got, ok, s.mean)
	}
	if low, high, ok := Span(l, f); low != s.low || high != s.high || !ok {
		t.Errorf("Span(%v, %d) is %d, %d, %v, not %d, %d", head(l), f, low, high, ok, s.low, s.high)
	}
}

// leavesNothing asks that neither Mean nor Span tells anything of l without f at each end.
func leavesNothing(t *testing.T, l []int64, f int) {
	t.Helper()
	if got, ok := Mean(l, f); got != 0 || ok {
		t.Errorf("Mean of %d numbers, %v, and %d is %d, %v", len(l), head(l), f, got, ok)
	}
	if low, high, ok := Span(l, f); low != 0 || high != 0 || ok {
		t.Errorf("Span of %d numbers, %v, and %d is %d, %d, %v", len(l), head(l), f, low, high, ok)
	}
}

// tellsNothing asks that no call tells anything of l, whatever the trim.
func tellsNothing(t *testing.T, l []int64) {
	t.Helper()
	lacks(t, l)
	for f := -2; f <= 5; f++ {
		leavesNothing(t, l, f)
	}
	leavesNothing(t, l, (len(l)-1)/2)
}

// agrees asks that all calls tell of l what the second telling does, by each trim from -1 on to one more than leaves any.
func agrees(t *testing.T, l []int64) {
	t.Helper()
	if v, ok := middle(l); ok {
		middles(t, l, v)
	} else {
		lacks(t, l)
	}
	for f := -1; f <= len(l)/2+1; f++ {
		if s, ok := told(l, f); ok {
			leaves(t, l, f, s)
		} else {
			leavesNothing(t, l, f)
		}
	}
}

// head is the first few of l, for a line that tells of it.
func head(l []int64) []int64 { return l[:min(len(l), 12)] }

// inAllOrders asks of l with its numbers from place k on in each order that they may have.
func inAllOrders(l []int64, k int, ask func(o []int64)) {
	if k == len(l) {
		ask(slices.Clone(l))
		return
	}
	for i := k; i < len(l); i++ {
		l[k], l[i] = l[i], l[k]
		inAllOrders(l, k+1, ask)
		l[k], l[i] = l[i], l[k]
	}
}

// small are all rows of up to n numbers from 0 to top.
func small(n int, top int64) [][]int64 {
	all := [][]int64{nil}
	for from := 0; len(all[from]) < n; from++ {
		for v := range top + 1 {
			all = append(all, append(slices.Clone(all[from]), v))
		}
	}
	return all
}

// thrown is a row of n numbers that may be said, of up to kinds that are unlike.
func thrown(dice *rand.Rand, n, kinds int) []int64 {
	known := make([]int64, kinds)
	for i := range known {
		known[i] = dice.Int64N(most + 1)
		switch dice.IntN(6) {
		case 0:
			known[i] = tame()[dice.IntN(len(tame()))]
		case 1:
			known[i] = dice.Int64N(10)
		}
	}
	l := make([]int64, n)
	for i := range l {
		l[i] = known[dice.IntN(kinds)]
	}
	return l
}

// rising is the n numbers from 0 on, thrown about.
func rising(dice *rand.Rand, n int) []int64 {
	l := make([]int64, n)
	for i, v := range dice.Perm(n) {
		l[i] = int64(v)
	}
	return l
}

func TestExample(t *testing.T) { // the chapter's, which is the document's fourth too
	if v, ok := Mean([]int64{1, 5, 100}, 1); v != 5 || !ok {
		t.Errorf("Mean([1, 5, 100], 1) is %d, %v", v, ok)
	}
}

func TestMedian(t *testing.T) { // 10.1: of an even number of them the lesser in the middle
	for _, r := range rows() {
		middles(t, r.l, r.median)
	}
}

func TestMedianOfNone(t *testing.T) { // 10.1
	lacks(t, nil)
	lacks(t, []int64{})
	lacks(t, make([]int64, 0, 5))
	middles(t, []int64{0}, 0) // which is told beside true
}

func TestMedianIsOfItsPlace(t *testing.T) { // 10.1: (their number less 1) / 2, of each length
	dice := rand.New(rand.NewPCG(10, 1))
	for n := 1; n <= 1000; n++ {
		l := rising(dice, n)
		want := int64(n/2 - 1)
		if n%2 == 1 {
			want = int64(n / 2)
		}
		if v, ok := Median(l); v != want || !ok {
			t.Errorf("Median of the %d numbers from 0 on is %d, %v, not %d", n, v, ok, want)
		}
	}
}

func TestMeanAndSpan(t *testing.T) { // 10.1: by each trim that leaves some, and by the first ones that leave none
	for _, r := range rows() {
		for f, s := range r.by {
			leaves(t, r.l, f, s)
		}
		for f := len(r.by); f <= len(r.l)+2; f++ {
			leavesNothing(t, r.l, f)
		}
		for _, f := range ends() {
			leavesNothing(t, r.l, f)
		}
	}
}

func TestMeanIsTheWholePart(t *testing.T) { // 10.1: whatever is over, up to one less than their number
	for n := 1; n <= 50; n++ {
		for over := range n {
			l := make([]int64, n)
			for i := range l {
				l[i] = 6
				if i < over {
					l[i] = 7
				}
			}
			if v, ok := Mean(l, 0); v != 6 || !ok {
				t.Errorf("Mean of %d sixes and %d sevens is %d, %v", n-over, over, v, ok)
			}
			l[n-1] = 6 + int64(n-over) // so that nothing is over
			if v, ok := Mean(l, 0); v != 7 || !ok {
				t.Errorf("Mean(%v, 0) is %d, %v", l, v, ok)
			}
		}
	}
}

func TestMeanOfGreatNumbers(t *testing.T) { // 10.1: of the greatest ones, and with one that is less by as many
	for _, n := range []int{2, 3, 511, 512, 513, 999, 1000} {
		l := slices.Repeat([]int64{most}, n)
		leaves(t, l, 0, span{most, most, most})
		l[n/2]--
		leaves(t, l, 0, span{most - 1, most - 1, most})
		l[n/2] -= int64(n) - 1
		leaves(t, l, 0, span{most - 1, most - int64(n), most})
		l[n/2]--
		leaves(t, l, 0, span{most - 2, most - int64(n) - 1, most})
	}
}

func TestOfNone(t *testing.T) { // 10.1: nothing is left of nothing
	for _, l := range [][]int64{nil, {}, make([]int64, 0, 7)} {
		tellsNothing(t, l)
		for _, f := range ends() {
			leavesNothing(t, l, f)
		}
	}
}

func TestTrimsAtTheirEdges(t *testing.T) { // 10.1: the greatest that leaves some, the least that leaves none, and a nought
	for n := 1; n <= 1000; n++ {
		l := make([]int64, n) // falling
		sum := int64(0)
		for i := range l {
			l[i] = int64(n - 1 - i)
			sum += l[i]
		}
		leaves(t, l, 0, span{sum / int64(n), 0, int64(n) - 1})
		last := (n - 1) / 2
		low, high := int64(last), int64(n-1-last)
		leaves(t, l, last, span{(low + high) / 2, low, high})
		leavesNothing(t, l, last+1)
		leavesNothing(t, l, last+2)
		leavesNothing(t, l, n)
		leavesNothing(t, l, n+1)
		leavesNothing(t, l, -1)
		leavesNothing(t, l, -n)
	}
}

func TestTrimsOfTheirKind(t *testing.T) { // 10.1: at the ends of it, of each length that may be
	for _, n := range []int{1, 2, 3, 4, 5, 7, 255, 256, 257, 512, 999, 1000} {
		l := slices.Repeat([]int64{3}, n)
		for _, f := range ends() {
			leavesNothing(t, l, f)
		}
	}
}

func TestNumbersThatMayBe(t *testing.T) { // 10.1: both ends are among them
	for _, v := range tame() {
		middles(t, []int64{v}, v)
		leaves(t, []int64{v}, 0, span{v, v, v})
		leavesNothing(t, []int64{v}, 1)
		for _, w := range tame() {
			agrees(t, []int64{v, w})
			agrees(t, []int64{v, w, v, 5})
			agrees(t, []int64{9, w, v, 5, 0, most})
		}
	}
}

func TestNumbersThatMayNotBe(t *testing.T) { // 10.1: at any place of a row, at its middle or among those that would go
	for _, v := range wild() {
		tellsNothing(t, []int64{v})
		tellsNothing(t, []int64{v, v, v, v, v})
		for _, r := range rows() {
			for at := range len(r.l) + 1 {
				tellsNothing(t, slices.Insert(slices.Clone(r.l), at, v))
			}
			for at := range r.l {
				l := slices.Clone(r.l)
				l[at] = v
				tellsNothing(t, l)
			}
		}
	}
}

func TestTwoThatMayNotBe(t *testing.T) { // 10.1: nor does one make good for another
	for _, v := range wild() {
		for _, w := range wild() {
			tellsNothing(t, []int64{v, w})
			tellsNothing(t, []int64{4, v, 4, w, 4, 4})
			tellsNothing(t, []int64{0, 1, w, 2, 3, most, v})
		}
	}
}

func TestAWildOneOfMany(t *testing.T) { // 10.1: at the first place of a thousand, at the last, and between
	for _, v := range []int64{-1, most + 1, math.MinInt64, math.MaxInt64} {
		for _, at := range []int{0, 1, 255, 256, 499, 500, 501, 998, 999} {
			l := slices.Repeat([]int64{8}, 1000)
			l[at] = v
			tellsNothing(t, l)
			l[at] = 8
			middles(t, l, 8)
			leaves(t, l, 3, span{8, 8, 8})
		}
	}
}

func TestAThousandAndOneMore(t *testing.T) { // 10.1
	for _, v := range []int64{0, 1, 500, most} {
		l := slices.Repeat([]int64{v}, 1000)
		middles(t, l, v)
		for _, f := range []int{0, 1, 498, 499} {
			leaves(t, l, f, span{v, v, v})
		}
		leavesNothing(t, l, 500)
		leavesNothing(t, l, -1)
		leaves(t, l[1:], 0, span{v, v, v})
		leaves(t, l[1:], 499, span{v, v, v})
		leavesNothing(t, l[1:], 500)
		l = append(l, v)
		tellsNothing(t, l)
		for _, f := range []int{1, 2, 499, 500, 501, 1000, 1001} {
			leavesNothing(t, l, f)
		}
	}
}

func TestManyMore(t *testing.T) { // 10.1: whatever the length is then
	for _, n := range []int{1001, 1002, 1024, 1256, 2000, 2001, 65536, 65536 + 3, 1 << 20} {
		tellsNothing(t, make([]int64, n))
		leavesNothing(t, make([]int64, n), n/2-1)
		leavesNothing(t, make([]int64, n), n-1)
	}
}

func TestQuorum(t *testing.T) { // 10.1: at least q, and above 0
	for _, x := range []struct {
		n, q int
		is   bool
	}{
		{3, 3, true}, // n at q
		{2, 3, false},
		{4, 3, true},
		{1, 1, true},
		{0, 1, false},
		{16, 16, true},
		{15, 16, false},
		{0, 0, false}, // at q, but not above 0
		{1, 0, true},
		{0, -1, false}, // above q, but not above 0
		{1, -1, true},
		{-1, -1, false},
		{-1, -2, false},
		{-2, -1, false},
		{-1, 0, false},
		{-3, 3, false},
		{3, -3, true},
		{1001, 1000, true}, // no bound of rows holds here
		{5000, 5001, false},
		{1 << 32, 1, true}, // and all of them are asked
		{1, 1 << 32, false},
		{1<<32 + 1, 1 << 32, true},
		{1 << 32, 1<<32 + 1, false},
		{math.MaxInt, math.MaxInt, true},
		{math.MaxInt - 1, math.MaxInt, false},
		{math.MaxInt, math.MaxInt - 1, true},
		{math.MaxInt, math.MinInt, true}, // though their difference wraps round
		{math.MinInt, math.MaxInt, false},
		{math.MinInt, math.MinInt, false},
		{math.MinInt + 1, math.MinInt, false},
		{math.MaxInt, 0, true},
		{math.MaxInt, -2, true},
		{math.MinInt, 0, false},
		{math.MinInt, 2, false},
		{0, math.MinInt, false},
		{1, math.MinInt, true},
		{0, math.MaxInt, false},
		{1, math.MaxInt, false},
	} {
		if got := Quorum(x.n, x.q); got != x.is {
			t.Errorf("Quorum(%d, %d) is %v", x.n, x.q, got)
		}
	}
}

func TestQuorumOfSmallOnes(t *testing.T) { // 10.1: by counting up to q
	for q := -20; q <= 20; q++ {
		for n := -20; n <= 20; n++ {
			is := false
			for k := 1; k <= n; k++ {
				is = is || k >= q
			}
			if got := Quorum(n, q); got != is {
				t.Errorf("Quorum(%d, %d) is %v", n, q, got)
			}
		}
	}
}

func TestOfAllSmallRows(t *testing.T) { // 10.1
	for _, l := range small(6, 2) {
		agrees(t, l)
	}
	for _, l := range small(4, 6) {
		agrees(t, l)
	}
}

func TestOfEachLength(t *testing.T) { // 10.1: with few kinds of numbers, and with many
	dice := rand.New(rand.NewPCG(10, 2))
	for n := range 60 {
		for _, kinds := range []int{1, 2, 3, n/2 + 1, 2*n + 1} {
			agrees(t, thrown(dice, n, kinds))
		}
	}
}

func TestOfLongRows(t *testing.T) { // 10.1: as many as may be, by any trim
	dice := rand.New(rand.NewPCG(10, 3))
	for round := range 60 {
		n := 990 + dice.IntN(14)
		l := thrown(dice, n, 1+dice.IntN(n))
		f := dice.IntN(n/2 + 2)
		if round%4 == 0 {
			f = (n - 1) / 2
		}
		if s, ok := told(l, f); ok {
			leaves(t, l, f, s)
		} else {
			leavesNothing(t, l, f)
		}
		if v, ok := middle(l); ok {
			middles(t, l, v)
		} else {
			lacks(t, l)
		}
	}
}

func TestSomeWild(t *testing.T) { // 10.1: rows that may be and that may not, thrown together
	dice := rand.New(rand.NewPCG(10, 4))
	for range 3000 {
		l := thrown(dice, dice.IntN(9), 4)
		if len(l) > 0 && dice.IntN(3) == 0 {
			l[dice.IntN(len(l))] = wild()[dice.IntN(len(wild()))]
		}
		agrees(t, l)
	}
}

func TestAnyOrderAnyAnswer(t *testing.T) { // 10.1: what is least and greatest hangs on no place
	for _, l := range [][]int64{{7}, {1, 2}, {4, 4}, {3, 1, 2}, {3, 1, 3}, {most, 0, 5, 4}, {5, 3, 5, 3}, {1, 2, 3, 4, 50}, {2, 9, 2, 7, 9, 2}, {10, 20, 31, 40, 50, 60}} {
		v, _ := middle(l)
		inAllOrders(l, 0, func(o []int64) {
			middles(t, o, v)
			for f := range (len(l) + 1) / 2 {
				s, _ := told(l, f)
				leaves(t, o, f, s)
			}
			leavesNothing(t, o, (len(l)+1)/2)
		})
	}
}

// holds asks that with f taken at each end nothing is told of l beyond the least and the greatest of those that don't lie.
func holds(t *testing.T, l, honest []int64, f int) {
	t.Helper()
	low, high := slices.Min(honest), slices.Max(honest)
	if v, ok := Mean(l, f); !ok || v < low || v > high {
		t.Fatalf("Mean(%v, %d) is %d, %v, beyond those of %v", l, f, v, ok, honest)
	}
	if a, b, ok := Span(l, f); !ok || a < low || b > high || a > b {
		t.Fatalf("Span(%v, %d) is %d, %d, %v, beyond those of %v", l, f, a, b, ok, honest)
	}
	if v, ok := Median(l); !ok || v < low || v > high {
		t.Fatalf("Median(%v) is %d, %v, beyond those of %v", l, v, ok, honest)
	}
}

// lie puts what the liars say in place of what stands at the places that they have, which are those of the bits of who; and tells what the others say.
func lie(l []int64, who int, say []int64) (lied, honest []int64) {
	lied = slices.Clone(l)
	for i, v := range l {
		if who>>i&1 == 0 {
			honest = append(honest, v)
		} else {
			lied[i], say = say[0], say[1:]
		}
	}
	return lied, honest
}

// number is how many bits of who there are.
func number(who int) int {
	n := 0
	for ; who > 0; who &= who - 1 {
		n++
	}
	return n
}

func TestOneLiarOfThreeAndFour(t *testing.T) { // 10.2, T2: whichever of them, whatever it says, and whatever the others do
	says := []int64{0, 1, 2, 3, 4, 5, most - 1, most}
	for _, l := range small(4, 4) {
		if len(l) < 3 {
			continue
		}
		for at := range l {
			for _, v := range says {
				lied, honest := lie(l, 1<<at, []int64{v})
				holds(t, lied, honest, 1)
			}
		}
		holds(t, l, l, 1)
		holds(t, l, l, 0)
	}
}

func TestTwoLiarsOfFiveAndSeven(t *testing.T) { // 10.2, T2: any two of them, or fewer
	says := []int64{0, 4, 6, 9, most}
	for _, l := range [][]int64{{5, 5, 5, 5, 5}, {4, 5, 6, 7, 8}, {8, 4, 7, 5, 6}, {5, 8, 5, 8, 5, 8}, {0, 0, 5, 5, most, most}, {0, 1, 4, 5, 6, 9, 11}, {7, 7, 3, 3, 7, 3, 7}} {
		for who := range 1 << len(l) {
			if number(who) > 2 {
				continue
			}
			for _, a := range says {
				for _, b := range says {
					lied, honest := lie(l, who, []int64{a, b})
					holds(t, lied, honest, 2)
				}
			}
		}
	}
}

func TestWhatSomeSayMovesNothingBeyondTheOthers(t *testing.T) { // 10.2, T2: at most f of any number of them, near the others, far from them, of one mind or not
	dice := rand.New(rand.NewPCG(10, 5))
	for range 20000 {
		f := dice.IntN(6)
		n := 2*f + 1 + dice.IntN(8)
		l := thrown(dice, n, 1+dice.IntN(n))
		if dice.IntN(2) == 0 { // honest ones near each other
			for i := range l {
				l[i] = 1000 + dice.Int64N(50)
			}
		}
		honest := l[dice.IntN(f+1):]
		for i := range len(l) - len(honest) {
			switch dice.IntN(4) {
			case 0:
				l[i] = 0
			case 1:
				l[i] = most
			case 2:
				l[i] = honest[dice.IntN(len(honest))] + dice.Int64N(2)
			}
			l[i] = min(l[i], most)
		}
		honest = slices.Clone(honest)
		dice.Shuffle(n, func(i, j int) { l[i], l[j] = l[j], l[i] })
		holds(t, l, honest, f)
	}
}

func TestTheMostThatMayLie(t *testing.T) { // 10.2, T2: all of them on one side, and f on each place of it
	for f := range 500 {
		for _, v := range []int64{0, most} {
			l := slices.Repeat([]int64{v}, f)
			for i := range f + 1 {
				l = append(l, 1000+int64(i%7))
			}
			holds(t, l, l[f:], f)
			if v, _ := Mean(l, f); v < 1000 || v > 1006 {
				t.Errorf("Mean of %d numbers and %d is %d", len(l), f, v)
			}
		}
	}
}

func TestALieThatMayNotBe(t *testing.T) { // 10.2: it isn't believed either: nothing is told then
	for _, v := range wild() {
		for at := range 7 {
			lied, _ := lie([]int64{1000, 1010, 1020, 1000, 990, 995, 1005}, 1<<at, []int64{v})
			tellsNothing(t, lied)
		}
	}
}

func TestWithTheLeastAndTheGreatest(t *testing.T) { // 10.2, T2: whatever one of four says, the mean lies between those of the least and of the greatest that it could say
	dice := rand.New(rand.NewPCG(10, 6))
	for range 3000 {
		f := 1 + dice.IntN(4)
		n := 3*f + 1 + dice.IntN(3)
		l := thrown(dice, n, n)
		low, high := slices.Clone(l), slices.Clone(l)
		for i := range f {
			low[i], high[i] = 0, most
		}
		a, _ := Mean(low, f)
		b, _ := Mean(high, f)
		if v, ok := Mean(l, f); !ok || v < a || v > b {
			t.Fatalf("Mean(%v, %d) is %d, %v, not from %d to %d", l, f, v, ok, a, b)
		}
	}
}

func TestWhoIsNearStaysNearTheMedian(t *testing.T) { // 10.2, T5: if the others stay within far of each other, none of them is further than that from the median, whatever the liars say
	dice := rand.New(rand.NewPCG(10, 7))
	for range 5000 {
		f, far := dice.IntN(6), dice.Int64N(200)
		n, base := 2*f+1+dice.IntN(9), dice.Int64N(most-200)
		l := thrown(dice, n, n)
		for i := f; i < n; i++ {
			l[i] = base + dice.Int64N(far+1)
		}
		honest := slices.Clone(l[f:])
		dice.Shuffle(n, func(i, j int) { l[i], l[j] = l[j], l[i] })
		v, ok := Median(l)
		for _, h := range honest {
			if !ok || h-v > far || v-h > far {
				t.Fatalf("Median(%v) is %d, %v, further than %d from %d", l, v, ok, far, h)
			}
		}
	}
}

// roomy is a copy of l, with numbers behind it in the room that it has.
func roomy(l []int64) []int64 {
	return append(slices.Clone(l), 77, -77, 0)[:len(l)]
}

// whole is all that stands in l's room.
func whole(l []int64) []int64 { return slices.Clone(l[:cap(l)]) }

func TestWhatIsHandedInStays(t *testing.T) { // rule 2: and what stands behind it, which is not asked either
	lists := [][]int64{nil, {}, {-1}, {5, most + 1, 3, 2}, {9, 8, 7, -6, 5}}
	for _, r := range rows() {
		lists = append(lists, r.l)
	}
	for _, l := range lists {
		a := roomy(l)
		was := whole(a)
		agrees(t, a)
		for _, f := range []int{-1, 0, 1, 2, 3, 1000, math.MaxInt} {
			Median(a)
			Mean(a, f)
			Span(a, f)
		}
		if !slices.Equal(whole(a), was) {
			t.Errorf("%v was changed to %v", was, whole(a))
		}
	}
}

func TestALongRowStays(t *testing.T) { // rule 2: also of as many as may be, and of one more
	dice := rand.New(rand.NewPCG(10, 8))
	for _, n := range []int{12, 13, 50, 999, 1000, 1001} {
		l := roomy(thrown(dice, n, n))
		was := whole(l)
		Median(l)
		Mean(l, 3)
		Span(l, 3)
		if !slices.Equal(whole(l), was) {
			t.Errorf("a row of %d was changed", n)
		}
	}
}

func TestNothingIsKept(t *testing.T) { // rule 3: what was asked ahead changes no answer
	l := []int64{40, 10, 30, 20}
	for range 100 {
		middles(t, l, 20)
		leaves(t, l, 0, span{25, 10, 40})
		leaves(t, l, 1, span{25, 20, 30})
		leavesNothing(t, l, 2)
		tellsNothing(t, []int64{40, -1, 30, 20})
		tellsNothing(t, nil)
		leaves(t, []int64{most}, 0, span{most, most, most})
	}
}

func TestTheSameEachTime(t *testing.T) { // rule 3: what others ask at one time, of the same row, changes no answer
	l := thrown(rand.New(rand.NewPCG(10, 9)), 1000, 1000)
	v, _ := middle(l)
	var by []span
	for f := range 20 {
		s, _ := told(l, f)
		by = append(by, s)
	}
	var all sync.WaitGroup
	for range 16 {
		all.Go(func() {
			for f, s := range by {
				middles(t, l, v)
				leaves(t, l, f, s)
				leavesNothing(t, l, 500+f)
			}
		})
	}
	all.Wait()
}
