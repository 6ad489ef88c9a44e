package ratio

import (
	"math"
	"math/big"
	"math/rand/v2"
	"slices"
	"sync"
	"testing"

	"quorumite/api"
)

const (
	most = api.MaxValue
	room = api.MaxReplicas
)

// wildValues are values that may not be: next to those that may be, at the ends of 64 bits, and where a smaller kind, a float or a product would take them for others.
func wildValues() []int64 {
	return []int64{-1, -2, -999, -1000, -1 << 31, -1 << 32, -1<<32 + 5, -1 << 40, -1 << 53, -1 << 61, math.MinInt64 + 1, math.MinInt64, most + 1, most + 2, 2 * most, 1 << 42, 1<<48 + 1000, 1 << 53, 1 << 61, 1<<61 + 1, 1 << 62, math.MaxInt64 / 1000, math.MaxInt64 - 1, math.MaxInt64}
}

// wildTargets are targets that may not be: 0 is none either.
func wildTargets() []int64 { return append(wildValues(), 0) }

// wildTols are tolerances that may not be.
func wildTols() []int {
	return []int{-1, -2, -100, -1000, -1 << 31, -1 << 32, -1<<32 + 100, math.MinInt + 1, math.MinInt, 1001, 1002, 1100, 2000, 1 << 16, 1 << 31, 1 << 32, 1<<32 + 100, 1 << 62, math.MaxInt - 1, math.MaxInt}
}

// wildCounts are counts that may not be.
func wildCounts() []int {
	return []int{-1, -2, -4, -10000, -1 << 31, -1 << 32, -1<<32 + 4, math.MinInt + 1, math.MinInt, room + 1, room + 2, 65536 + 4, 1000000, 1 << 31, 1 << 32, 1<<32 + 4, 1 << 62, math.MaxInt - 1, math.MaxInt}
}

// tameValues are values that may be, at both ends and where a smaller kind would end.
func tameValues() []int64 {
	return []int64{0, 1, 2, 3, 7, 255, 256, 899, 900, 999, 1000, 1001, 1100, 1101, 65535, 1<<31 - 1, 1 << 31, 1<<32 - 1, 1 << 32, 1 << 39, most - 1, most}
}

// tameTargets are targets that may be.
func tameTargets() []int64 { return tameValues()[1:] }

// tameTols are tolerances that may be.
func tameTols() []int { return []int{0, 1, 2, 99, 100, 101, 500, 998, 999, 1000} }

// tameCounts are counts that may be.
func tameCounts() []int {
	return []int{0, 1, 2, 3, 4, 10, 99, 100, 101, 255, 256, 1000, room - 1, room}
}

// fair is whether the numbers may be, told a second time.
func fair(count int, value, target int64, tol int) bool {
	return count >= 0 && count < 10001 && value >= 0 && value < 1099511627777 && target > 0 && target < 1099511627777 && tol >= 0 && tol < 1001
}

// byGap is a second telling of In of numbers that may be: how far value is from target, not where the band ends.
func byGap(value, target int64, tol int) bool {
	gap := new(big.Int).Sub(big.NewInt(value), big.NewInt(target))
	gap.Mul(gap.Abs(gap), big.NewInt(1000))
	return gap.Cmp(new(big.Int).Mul(big.NewInt(target), big.NewInt(int64(tol)))) <= 0
}

// asked is a second telling of Want, and whether the numbers may be.
func asked(count int, value, target int64, tol int) (int, bool) {
	if !fair(count, value, target, tol) {
		return 0, false
	}
	if byGap(value, target, tol) {
		return count, true
	}
	load := new(big.Int).Mul(big.NewInt(int64(count)), big.NewInt(value))
	n, over := new(big.Int).QuoRem(load, big.NewInt(target), new(big.Int))
	if over.Sign() > 0 {
		n.Add(n, big.NewInt(1))
	}
	if n.Cmp(big.NewInt(1000000)) > 0 {
		return 1000000, true
	}
	return int(n.Int64()), true
}

// greatest is a second telling of Most: what all want, by size.
func greatest(count int, values, targets []int64, tol int) (int, bool) {
	if len(values) != len(targets) || len(values) < 1 {
		return 0, false
	}
	var all []int
	for i := range values {
		n, ok := asked(count, values[i], targets[i], tol)
		if !ok {
			return 0, false
		}
		all = append(all, n)
	}
	slices.Sort(all)
	return all[len(all)-1], true
}

// isIn asks that In tells is.
func isIn(t *testing.T, value, target int64, tol int, is bool) {
	t.Helper()
	if got := In(value, target, tol); got != is {
		t.Errorf("In(%d, %d, %d) is %v", value, target, tol, got)
	}
}

// wants asks that Want tells n.
func wants(t *testing.T, count int, value, target int64, tol, n int) {
	t.Helper()
	if got := Want(count, value, target, tol); got != n {
		t.Errorf("Want(%d, %d, %d, %d) is %d, not %d", count, value, target, tol, got, n)
	}
}

// wantsMost asks that Most tells n.
func wantsMost(t *testing.T, count int, values, targets []int64, tol, n int) {
	t.Helper()
	if got, ok := Most(count, values, targets, tol); got != n || !ok {
		t.Errorf("Most(%d, %v, %v, %d) is %d, %v, not %d", count, values, targets, tol, got, ok, n)
	}
}

// wantsNone asks that Most tells nothing.
func wantsNone(t *testing.T, count int, values, targets []int64, tol int) {
	t.Helper()
	if got, ok := Most(count, values, targets, tol); got != 0 || ok {
		t.Errorf("Most(%d, %v, %v, %d) is %d, %v", count, values, targets, tol, got, ok)
	}
}

// agree asks that all calls tell of these numbers what the second telling does.
func agree(t *testing.T, count int, value, target int64, tol int) {
	t.Helper()
	isIn(t, value, target, tol, fair(0, value, target, tol) && byGap(value, target, tol))
	n, ok := asked(count, value, target, tol)
	wants(t, count, value, target, tol, n)
	agreeOnRows(t, count, []int64{value}, []int64{target}, tol)
	if !ok {
		wantsNone(t, count, []int64{value}, []int64{target}, tol)
	}
}

// agreeOnRows asks that Most tells what the second telling does.
func agreeOnRows(t *testing.T, count int, values, targets []int64, tol int) {
	t.Helper()
	if n, ok := greatest(count, values, targets, tol); ok {
		wantsMost(t, count, values, targets, tol, n)
	} else {
		wantsNone(t, count, values, targets, tol)
	}
}

// refuses asks that no call takes these numbers.
func refuses(t *testing.T, count int, value, target int64, tol int) {
	t.Helper()
	wants(t, count, value, target, tol, 0)
	wantsNone(t, count, []int64{value}, []int64{target}, tol)
}

// thrown is a value that may be, of any size.
func thrown(dice *rand.Rand) int64 {
	switch dice.IntN(5) {
	case 0:
		return dice.Int64N(20)
	case 1:
		return dice.Int64N(2000)
	case 2:
		return tameValues()[dice.IntN(len(tameValues()))]
	case 3:
		return dice.Int64N(1 << (1 + dice.IntN(40)))
	}
	return dice.Int64N(most + 1)
}

// thrownNear is a value that may be, often near target or at its band's ends.
func thrownNear(dice *rand.Rand, target int64, tol int) int64 {
	value := thrown(dice)
	switch dice.IntN(5) {
	case 0:
		value = target + dice.Int64N(5) - 2
	case 1:
		value = target*int64(1000-tol)/1000 + dice.Int64N(5) - 2
	case 2:
		value = target*int64(1000+tol)/1000 + dice.Int64N(5) - 2
	}
	return min(max(value, 0), most)
}

// thrownTol is a tolerance that may be.
func thrownTol(dice *rand.Rand) int {
	if dice.IntN(3) == 0 {
		return tameTols()[dice.IntN(len(tameTols()))]
	}
	return dice.IntN(1001)
}

// thrownCount is a count that may be.
func thrownCount(dice *rand.Rand) int {
	if dice.IntN(2) == 0 {
		return dice.IntN(20)
	}
	return dice.IntN(room + 1)
}

func TestExamples(t *testing.T) { // the chapter's, and the document's fifth
	wants(t, 4, 1500, 1000, 100, 6)
	wants(t, 4, 1100, 1000, 100, 4)
}

func TestIn(t *testing.T) { // 13.1: at either end of the band, and one beyond it
	for _, x := range []struct {
		value, target int64
		tol           int
		is            bool
	}{
		{1000, 1000, 100, true},
		{900, 1000, 100, true},
		{899, 1000, 100, false},
		{1100, 1000, 100, true},
		{1101, 1000, 100, false},
		{1000, 1000, 0, true}, // with no tolerance there is the target alone
		{999, 1000, 0, false},
		{1001, 1000, 0, false},
		{999, 1000, 1, true},
		{998, 1000, 1, false},
		{1001, 1000, 1, true},
		{1002, 1000, 1, false},
		{0, 1000, 1000, true}, // with all of it there is no lower end
		{1, 1000, 1000, true},
		{2000, 1000, 1000, true},
		{2001, 1000, 1000, false},
		{0, 1000, 999, false},
		{1, 1000, 999, true},
		{1999, 1000, 999, true},
		{2000, 1000, 999, false},
		{500, 1000, 500, true},
		{499, 1000, 500, false},
		{1500, 1000, 500, true},
		{1501, 1000, 500, false},
		{1, 1, 0, true}, // the least target
		{0, 1, 0, false},
		{2, 1, 0, false},
		{0, 1, 999, false},
		{2, 1, 999, false},
		{0, 1, 1000, true},
		{2, 1, 1000, true},
		{3, 1, 1000, false},
		{3, 3, 100, true}, // the band's ends lie between whole numbers: 2.7 and 3.3
		{2, 3, 100, false},
		{4, 3, 100, false},
		{2, 3, 333, false}, // 2.001 and 3.999
		{4, 3, 333, false},
		{2, 3, 334, true}, // 1.998 and 4.002
		{4, 3, 334, true},
		{7, 7, 142, true}, // 6.006 and 7.994
		{6, 7, 142, false},
		{8, 7, 142, false},
		{6, 7, 143, true}, // 5.999 and 8.001
		{8, 7, 143, true},
		{5, 7, 143, false},
		{9, 7, 143, false},
		{most, most, 0, true}, // the greatest one
		{most - 1, most, 0, false},
		{most / 2, most, 500, true},
		{most/2 - 1, most, 500, false},
		{0, most, 999, false},
		{0, most, 1000, true},
		{most, most / 2, 1000, true},
		{most, most/2 - 1, 1000, false},
		{most, 1, 1000, false},
		{1, most, 999, false},
		{1, most, 1000, true},
	} {
		isIn(t, x.value, x.target, x.tol, x.is)
	}
}

func TestBandsOfEachTolerance(t *testing.T) { // 13.1: of a thousand the band's ends are whole, of others just within, by each tolerance
	for tol := range 1001 {
		for _, k := range []int64{1, 3, most / 2000} {
			target, wide := 1000*k, int64(tol)*k
			isIn(t, target, target, tol, true)
			isIn(t, target-wide, target, tol, true)
			isIn(t, target+wide, target, tol, true)
			isIn(t, target-wide-1, target, tol, false) // below 0 with a tolerance of all of it
			isIn(t, target+wide+1, target, tol, false)
		}
		for _, target := range []int64{1, 2, 7, 999, 1001, 1<<32 + 1, most - 1, most} {
			wide := int64(tol) * target / 1000
			isIn(t, target-wide, target, tol, true)
			isIn(t, target-wide-1, target, tol, false)
			isIn(t, target+wide, target, tol, target+wide <= most)
			isIn(t, target+wide+1, target, tol, false)
		}
	}
}

func TestInOfWhatMayNotBe(t *testing.T) { // 13.1: one part alone, and with others, however wide the band is
	for _, value := range wildValues() {
		for _, tol := range tameTols() {
			for _, target := range tameTargets() {
				isIn(t, value, target, tol, false)
			}
			for _, target := range wildTargets() {
				isIn(t, value, target, tol, false)
			}
			isIn(t, value, value, tol, false)
		}
		for _, tol := range wildTols() {
			isIn(t, value, 1000, tol, false)
			isIn(t, value, value, tol, false)
		}
	}
	for _, target := range wildTargets() {
		for _, value := range tameValues() {
			for _, tol := range tameTols() {
				isIn(t, value, target, tol, false)
			}
			for _, tol := range wildTols() {
				isIn(t, value, target, tol, false)
			}
		}
	}
	for _, tol := range wildTols() {
		for _, value := range tameValues() {
			for _, target := range tameTargets() {
				isIn(t, value, target, tol, false)
			}
		}
	}
}

func TestWant(t *testing.T) { // 13.1: the least whole number that is enough
	for _, x := range []struct {
		count         int
		value, target int64
		tol, n        int
	}{
		{4, 1000, 1000, 100, 4}, // within the band
		{4, 900, 1000, 100, 4},
		{4, 899, 1000, 100, 4}, // 3.596
		{4, 751, 1000, 100, 4}, // 3.004
		{4, 750, 1000, 100, 3}, // 3
		{4, 749, 1000, 100, 3},
		{4, 1, 1000, 100, 1}, // 0.004
		{4, 0, 1000, 100, 0},
		{4, 1100, 1000, 100, 4},
		{4, 1101, 1000, 100, 5}, // 4.404
		{4, 1249, 1000, 100, 5},
		{4, 1250, 1000, 100, 5}, // 5
		{4, 1251, 1000, 100, 6}, // 5.004
		{4, 1499, 1000, 100, 6},
		{4, 1501, 1000, 100, 7},
		{10, 899, 1000, 100, 9}, // one beyond the band
		{10, 1101, 1000, 100, 12},
		{10, 900, 1000, 100, 10},
		{10, 1100, 1000, 100, 10},
		{10, 900, 1000, 99, 9},
		{10, 1100, 1000, 99, 11},
		{7, 999, 1000, 0, 7}, // 6.993
		{7, 1001, 1000, 0, 8},
		{1000, 999, 1000, 0, 999},
		{1000, 1001, 1000, 0, 1001},
		{1000, 999, 1000, 1, 1000},
		{1000, 1001, 1000, 1, 1000},
		{5, 0, 1000, 1000, 5}, // all that there is of it is within
		{5, 2000, 1000, 1000, 5},
		{5, 2001, 1000, 1000, 11},
		{5, 0, 1000, 999, 0},
		{5, 1, 1000, 999, 5},
		{6, 4, 3, 0, 8}, // the target divides count times value
		{6, 5, 3, 0, 10},
		{2, 5, 3, 0, 4}, // one is over, or two
		{2, 4, 3, 0, 3},
		{1, 7, 3, 0, 3},
		{1, 8, 3, 0, 3},
		{1, 9, 3, 0, 3},
		{1, 10, 3, 0, 4},
		{1, 0, 3, 0, 0}, // none, and one
		{1, 1, 3, 0, 1},
		{1, 2, 3, 0, 1},
		{3, 1, 3, 0, 1},
		{4, 1, 3, 0, 2},
		{1, 1, most, 0, 1},
		{room, 1, most, 0, 1},
		{room, 0, most, 0, 0},
		{0, 0, 1000, 0, 0}, // of none there is none to multiply
		{0, 1000, 1000, 100, 0},
		{0, 5000, 1000, 100, 0},
		{0, most, 1, 0, 0},
		{1, most, most, 0, 1},
		{room, most, most, 0, room},
		{room, most - 1, most, 0, room},
		{2, most / 2, most, 0, 1},
		{2, most/2 + 1, most, 0, 2},
		{3, most, most / 2, 0, 6},
		{3, most, most/2 - 1, 0, 7},
	} {
		wants(t, x.count, x.value, x.target, x.tol, x.n)
		wantsMost(t, x.count, []int64{x.value}, []int64{x.target}, x.tol, x.n)
	}
}

func TestWantAtItsMost(t *testing.T) { // 13.1: just a million, and what would be more
	for _, x := range []struct {
		count         int
		value, target int64
		n             int
	}{
		{1, 999999, 1, 999999},
		{1, 1000000, 1, 1000000},
		{1, 1000001, 1, 1000000},
		{1, 1999998, 2, 999999},
		{1, 1999999, 2, 1000000}, // 999,999.5
		{1, 2000000, 2, 1000000},
		{1, 2000001, 2, 1000000}, // 1,000,000.5
		{1, 2000002, 2, 1000000},
		{room, 100, 1, 1000000},
		{room, 101, 1, 1000000},
		{room, 99, 1, 990000},
		{room, 199, 2, 995000},
		{room - 1, 100, 1, 999900},
		{room - 1, 101, 1, 1000000},
		{5, 200000, 1, 1000000},
		{5, 199999, 1, 999995},
		{5, 200001, 1, 1000000},
		{1000, 1000, 1, 1000000},
		{1, 1 << 31, 1, 1000000},
		{1, 1 << 32, 1, 1000000},
		{1, most, 1, 1000000},
		{room, most, 1, 1000000},
		{room, most - 1, 1, 1000000},
		{room, most, most / 100, 1000000}, // 100 less a part, of 10,000
		{room, most, most/100 + 1, 1000000},
		{room, most, most/100 + 100000, 999991},
	} {
		wants(t, x.count, x.value, x.target, 100, x.n)
		wantsMost(t, x.count, []int64{x.value}, []int64{x.target}, 100, x.n)
		wantsMost(t, x.count, []int64{0, x.value, x.target}, []int64{1, x.target, x.target}, 100, x.n)
	}
}

func TestWantRoundsUp(t *testing.T) { // 13.1: what the target divides, and one fewer and one more, of all targets that are small
	for target := int64(2); target <= 60; target++ {
		for n := int64(1); n <= 60; n++ {
			if n == 1 {
				continue // within the band
			}
			wants(t, 1, n*target, target, 0, int(n))
			wants(t, 1, n*target-1, target, 0, int(n))
			wants(t, 1, n*target+1, target, 0, int(n)+1)
			wants(t, 1, n*target-target+1, target, 0, int(n))
		}
		for n := range target {
			if n != target {
				wants(t, int(target), n, target, 0, int(n))
				wants(t, int(target)+1, n, target, 0, int(n)+min(1, int(n)))
				wants(t, int(target)-1, n, target, 0, int(n))
			}
		}
	}
}

func TestWantIsEnoughAndNoMore(t *testing.T) { // 13.1: the load is parted among as many, and would not be among fewer
	for count := range 13 {
		for value := range int64(13) {
			for target := int64(1); target < 13; target++ {
				n := 0
				for int64(n)*target < int64(count)*value {
					n++
				}
				for _, tol := range []int{0, 100, 250, 500, 1000} {
					if byGap(value, target, tol) {
						n = count
					}
					wants(t, count, value, target, tol, n)
				}
			}
		}
	}
}

func TestTheSecondTelling(t *testing.T) { // 13.1: all numbers that may be at an edge, with all
	for _, count := range tameCounts() {
		for _, value := range tameValues() {
			for _, target := range tameTargets() {
				for _, tol := range tameTols() {
					agree(t, count, value, target, tol)
				}
			}
		}
	}
}

func TestTheSecondTellingAnywhere(t *testing.T) { // 13.1
	dice := rand.New(rand.NewPCG(13, 1))
	for range 100000 {
		target, tol := max(1, thrown(dice)), thrownTol(dice)
		agree(t, thrownCount(dice), thrownNear(dice, target, tol), target, tol)
	}
}

func TestACountThatMayNotBe(t *testing.T) { // 13.1: within the band and out of it
	for _, count := range wildCounts() {
		for _, tol := range tameTols() {
			for _, value := range []int64{0, 1, 900, 1000, 1100, 1500, most} {
				for _, target := range []int64{1, 1000, most} {
					refuses(t, count, value, target, tol)
				}
			}
		}
	}
}

func TestOnePartThatMayNotBe(t *testing.T) { // 13.1: of all counts that may be
	for _, count := range tameCounts() {
		for _, value := range wildValues() {
			for _, target := range []int64{1, 1000, most} {
				refuses(t, count, value, target, 0)
				refuses(t, count, value, target, 1000)
			}
		}
		for _, target := range wildTargets() {
			for _, value := range []int64{0, 1, 1000, most} {
				refuses(t, count, value, target, 0)
				refuses(t, count, value, target, 1000)
			}
		}
		for _, tol := range wildTols() {
			for _, value := range []int64{0, 1, 1000, most} {
				for _, target := range []int64{1, 1000, most} {
					refuses(t, count, value, target, tol)
				}
			}
		}
	}
}

func TestSeveralPartsThatMayNotBe(t *testing.T) { // 13.1: nor does one make good for another
	for _, value := range wildValues() {
		for _, target := range wildTargets() {
			refuses(t, 4, value, target, 100)
			for _, tol := range wildTols() {
				refuses(t, 4, value, target, tol)
				refuses(t, -1, value, target, tol)
				refuses(t, math.MaxInt, value, target, tol)
			}
		}
		for _, count := range wildCounts() {
			refuses(t, count, value, 1000, 100)
			refuses(t, count, 1000, value, 100)
		}
	}
	for _, tol := range wildTols() {
		for _, count := range wildCounts() {
			refuses(t, count, 1000, 1000, tol)
			refuses(t, count, 1500, 1000, tol)
			refuses(t, count, 1500, 0, tol)
		}
	}
}

func TestMost(t *testing.T) { // 13.1: the greatest want first, in the middle, last, and twice
	for _, x := range []struct {
		count           int
		values, targets []int64
		tol, n          int
	}{
		{4, []int64{1500}, []int64{1000}, 100, 6},
		{4, []int64{1000}, []int64{1000}, 100, 4},
		{4, []int64{0}, []int64{1000}, 100, 0},
		{4, []int64{1500, 1000}, []int64{1000, 1000}, 100, 6},
		{4, []int64{1000, 1500}, []int64{1000, 1000}, 100, 6},
		{4, []int64{1500, 1500}, []int64{1000, 1000}, 100, 6},
		{4, []int64{1500, 500, 0}, []int64{1000, 1000, 1000}, 100, 6},
		{4, []int64{500, 1500, 0}, []int64{1000, 1000, 1000}, 100, 6},
		{4, []int64{0, 500, 1500}, []int64{1000, 1000, 1000}, 100, 6},
		{4, []int64{1500, 0, 1500}, []int64{1000, 1000, 1000}, 100, 6},
		{4, []int64{250, 500, 0}, []int64{1000, 1000, 1000}, 100, 2}, // all want fewer
		{4, []int64{0, 0, 0}, []int64{1000, 1, most}, 100, 0},
		{4, []int64{250, 950, 0}, []int64{1000, 1000, 1000}, 100, 4}, // one is within the band
		{4, []int64{250, 950, 1500}, []int64{1000, 1000, 1000}, 100, 6},
		{4, []int64{10, 1000, 500000}, []int64{1, 1000, 1000000}, 100, 40}, // a lesser value wants more, by its own target
		{4, []int64{1000, 10, 500000}, []int64{1000, 1, 1000000}, 100, 40},
		{4, []int64{500000, 1000, 10}, []int64{1000000, 1000, 1}, 100, 40},
		{4, []int64{10, 1000}, []int64{1000, 10}, 100, 400}, // each by the target of its place
		{4, []int64{1000, 10}, []int64{1000, 10}, 100, 4},
		{4, []int64{1, 2, 3, 4}, []int64{1, 1, 1, 1}, 0, 16},
		{4, []int64{4, 3, 2, 1}, []int64{1, 1, 1, 1}, 0, 16},
		{4, []int64{1, 3, 4, 2}, []int64{1, 1, 1, 1}, 0, 16},
		{0, []int64{1500, most}, []int64{1000, 1}, 100, 0}, // beside true: nothing is wanted of none
		{0, []int64{0, 0}, []int64{1, most}, 1000, 0},
		{room, []int64{1, most}, []int64{most, 1}, 100, 1000000},
		{room, []int64{most, 1}, []int64{1, most}, 100, 1000000},
		{room, []int64{most, 1, most}, []int64{1, most, 1}, 100, 1000000},
		{room, []int64{1, 0}, []int64{most, most}, 100, 1},
		{1, []int64{999999, 1000001, 1000000}, []int64{1, 1, 1}, 0, 1000000},
	} {
		wantsMost(t, x.count, x.values, x.targets, x.tol, x.n)
	}
}

func TestMostOfNone(t *testing.T) { // 13.1: nil or empty
	for _, a := range [][]int64{nil, {}, make([]int64, 0, 4)} {
		for _, b := range [][]int64{nil, {}, make([]int64, 0, 4)} {
			for _, count := range slices.Concat(tameCounts(), wildCounts()) {
				wantsNone(t, count, a, b, 100)
				wantsNone(t, count, a, b, -1)
			}
		}
	}
}

func TestMostOfUnlikeLengths(t *testing.T) { // 13.1: whichever is longer, with room behind the shorter one too
	row := slices.Repeat([]int64{1000}, 12)
	for n := range row {
		for m := range row {
			if n == m {
				continue
			}
			wantsNone(t, 4, row[:n], row[:m], 100)
			wantsNone(t, 4, slices.Clone(row[:n]), slices.Clone(row[:m]), 100)
			wantsNone(t, 0, row[:n], row[:m], 1000)
		}
		if n > 0 {
			wantsNone(t, 4, row[:n], nil, 100)
			wantsNone(t, 4, nil, row[:n], 100)
			wantsMost(t, 4, row[:n], row[:n], 100, 4)
		}
	}
}

func TestMostInEachOrder(t *testing.T) { // 13.1: the places may be changed about
	values, targets := []int64{1500, 20, 7, 1000000}, []int64{1000, 40, 2, 1000000}
	at := []int{0, 1, 2, 3}
	dice := rand.New(rand.NewPCG(13, 2))
	for range 200 {
		dice.Shuffle(len(at), func(i, j int) { at[i], at[j] = at[j], at[i] })
		var v, g []int64
		for _, i := range at {
			v, g = append(v, values[i]), append(g, targets[i])
		}
		wantsMost(t, 4, v, g, 100, 14)
	}
}

func TestOneOfSeveralThatMayNotBe(t *testing.T) { // 13.1: at each place, whatever the others want
	values, targets := []int64{1500, 0, 1000, most}, []int64{1000, 1, 1000, 1}
	wantsMost(t, 4, values, targets, 100, 1000000)
	for at := range values {
		for _, v := range wildValues() {
			l := slices.Clone(values)
			l[at] = v
			wantsNone(t, 4, l, targets, 100)
			wantsNone(t, 0, l, targets, 1000)
		}
		for _, v := range wildTargets() {
			l := slices.Clone(targets)
			l[at] = v
			wantsNone(t, 4, values, l, 100)
			wantsNone(t, 0, values, l, 1000)
		}
	}
	for _, count := range wildCounts() {
		wantsNone(t, count, values, targets, 100)
	}
	for _, tol := range wildTols() {
		wantsNone(t, 4, values, targets, tol)
	}
}

func TestTwoOfSeveralThatMayNotBe(t *testing.T) { // 13.1
	for _, v := range wildValues() {
		for _, w := range wildTargets() {
			wantsNone(t, 4, []int64{v, 1000, 5}, []int64{1000, w, 5}, 100)
			wantsNone(t, 4, []int64{5, v, 1000}, []int64{5, w, 1000}, 100)
			wantsNone(t, 4, []int64{1000, w - 1, v}, []int64{w, 1000, 5}, 100)
		}
	}
}

func TestLongRows(t *testing.T) { // 13.1: of as many as there are, with the greatest at any place
	for _, n := range []int{5, 255, 256, 257, 1000, 1001, 70000} {
		values, targets := slices.Repeat([]int64{1000}, n), slices.Repeat([]int64{1000}, n)
		wantsMost(t, 4, values, targets, 100, 4)
		for _, at := range []int{0, 1, n / 2, n - 2, n - 1} {
			values[at] = 1500
			wantsMost(t, 4, values, targets, 100, 6)
			values[at] = -1
			wantsNone(t, 4, values, targets, 100)
			values[at] = 1000
			targets[at] = 0
			wantsNone(t, 4, values, targets, 100)
			targets[at] = 250
			wantsMost(t, 4, values, targets, 100, 16)
			targets[at] = 1000
		}
		wantsNone(t, 4, values, targets[1:], 100)
		wantsNone(t, 4, values[1:], targets, 100)
	}
}

func TestRowsAnywhere(t *testing.T) { // 13.1
	dice := rand.New(rand.NewPCG(13, 3))
	for range 30000 {
		tol, n := thrownTol(dice), dice.IntN(6)
		var values, targets []int64
		for range n {
			target := max(1, thrown(dice))
			values, targets = append(values, thrownNear(dice, target, tol)), append(targets, target)
		}
		count := thrownCount(dice)
		switch dice.IntN(12) {
		case 0:
			values = append(values, thrown(dice))
		case 1:
			targets = append(targets, thrown(dice))
		case 2:
			if n > 0 {
				values[dice.IntN(n)] = wildValues()[dice.IntN(len(wildValues()))]
			}
		case 3:
			if n > 0 {
				targets[dice.IntN(n)] = wildTargets()[dice.IntN(len(wildTargets()))]
			}
		case 4:
			count = wildCounts()[dice.IntN(len(wildCounts()))]
		case 5:
			tol = wildTols()[dice.IntN(len(wildTols()))]
		}
		agreeOnRows(t, count, values, targets, tol)
	}
}

func TestWithinTheBandTheCountStays(t *testing.T) { // 13.1, T5: by one value and by several
	for _, count := range tameCounts() {
		for _, target := range []int64{1, 3, 7, 1000, 1<<32 + 1, most} {
			for _, tol := range tameTols() {
				wide := target * int64(tol) / 1000
				low, high := target-wide, min(most, target+wide)
				for _, value := range []int64{low, (low + target) / 2, target, (target + high) / 2, high} {
					isIn(t, value, target, tol, true)
					wants(t, count, value, target, tol, count)
				}
				wantsMost(t, count, []int64{low, target, high}, []int64{target, target, target}, tol, count)
				wantsMost(t, count, []int64{high, low}, []int64{target, target}, tol, count)
			}
		}
	}
}

func TestOutOfTheBandItGoesTheRightWay(t *testing.T) { // 13.2: below it never more than are there, above it never fewer
	dice := rand.New(rand.NewPCG(13, 4))
	for range 50000 {
		target, tol := max(1, thrown(dice)), thrownTol(dice)
		count, value := thrownCount(dice), thrownNear(dice, target, tol)
		n := Want(count, value, target, tol)
		if value <= target && n > count || value >= target && n < count {
			t.Fatalf("Want(%d, %d, %d, %d) is %d", count, value, target, tol, n)
		}
	}
}

// climbs asks that, from a value to the next greater one and from a count to the next greater one, Want and Most never fall.
func climbs(t *testing.T, counts []int, values []int64, target int64, tol int) {
	t.Helper()
	for i, count := range counts {
		for j, value := range values {
			n := Want(count, value, target, tol)
			if j > 0 && n < Want(count, values[j-1], target, tol) {
				t.Fatalf("Want(%d, %d, %d, %d) is %d, less than of %d", count, value, target, tol, n, values[j-1])
			}
			if i > 0 && n < Want(counts[i-1], value, target, tol) {
				t.Fatalf("Want(%d, %d, %d, %d) is %d, less than of %d", count, value, target, tol, n, counts[i-1])
			}
		}
	}
}

func TestMoreLoadNeverWantsFewer(t *testing.T) { // 13.2: nor does more of what is there: one by one, through the band, on both sides of it
	var counts []int
	for n := range 30 {
		counts = append(counts, n)
	}
	var values []int64
	for v := range int64(50) {
		values = append(values, v)
	}
	for target := int64(1); target < 25; target++ {
		for _, tol := range []int{0, 1, 50, 100, 333, 500, 900, 999, 1000} {
			climbs(t, counts, values, target, tol)
		}
	}
}

func TestMoreLoadNeverWantsFewerByTheThousand(t *testing.T) { // 13.2: of the document's target
	var values []int64
	for v := range int64(2300) {
		values = append(values, v)
	}
	for _, tol := range tameTols() {
		climbs(t, []int{0, 1, 4, 5, 7, 100, 101, room - 1, room}, values, 1000, tol)
	}
}

func TestMoreOfWhatIsThereNeverWantsFewer(t *testing.T) { // 13.2: from none to as many as may be, one by one
	var counts []int
	for n := range room + 1 {
		counts = append(counts, n)
	}
	for _, x := range []struct {
		value, target int64
		tol           int
	}{
		{1500, 1000, 100}, {1000, 1000, 100}, {300, 1000, 100}, {0, 1, 0}, {99, 1, 0}, {100, 1, 0}, {101, 1, 0}, {most, 1, 0}, {1, most, 0}, {most, most / 3, 100}, {most, most, 0},
	} {
		climbs(t, counts, []int64{x.value}, x.target, x.tol)
	}
}

func TestMoreLoadNeverWantsFewerAnywhere(t *testing.T) { // 13.2, T2: of several values too, of which each is at least the other's, and of counts
	dice := rand.New(rand.NewPCG(13, 5))
	for range 50000 {
		tol, n := thrownTol(dice), 1+dice.IntN(4)
		var low, high, targets []int64
		for range n {
			target := max(1, thrown(dice))
			a, b := thrownNear(dice, target, tol), thrownNear(dice, target, tol)
			if dice.IntN(3) == 0 {
				b = a
			}
			low, high, targets = append(low, min(a, b)), append(high, max(a, b)), append(targets, target)
		}
		few, many := thrownCount(dice), thrownCount(dice)
		few, many = min(few, many), max(few, many)
		a, isA := Most(few, low, targets, tol)
		b, isB := Most(many, low, targets, tol)
		c, isC := Most(few, high, targets, tol)
		d, isD := Most(many, high, targets, tol)
		if !isA || !isB || !isC || !isD {
			t.Fatalf("Most of %v, %v and %v is not told", low, high, targets)
		}
		if a > min(b, c) || max(b, c) > d {
			t.Fatalf("Most of %d and %d, %v and %v by %v and %d is %d, %d, %d, %d", few, many, low, high, targets, tol, a, b, c, d)
		}
		climbs(t, []int{few, many}, []int64{low[0], high[0]}, targets[0], tol)
	}
}

func TestOneMoreValueNeverWantsFewer(t *testing.T) { // 13.2: whatever it is
	dice := rand.New(rand.NewPCG(13, 6))
	for range 5000 {
		var values, targets []int64
		count, tol, was := thrownCount(dice), thrownTol(dice), 0
		for range 6 {
			target := max(1, thrown(dice))
			values, targets = append(values, thrownNear(dice, target, tol)), append(targets, target)
			n, ok := Most(count, values, targets, tol)
			if !ok || n < was {
				t.Fatalf("Most(%d, %v, %v, %d) is %d, %v, less than %d", count, values, targets, tol, n, ok, was)
			}
			was = n
		}
	}
}

// roomy is a copy of l, with numbers behind it in the room that it has.
func roomy(l []int64) []int64 {
	return append(slices.Clone(l), 77, -77, 0)[:len(l)]
}

// all is all that stands in l's room.
func all(l []int64) []int64 { return slices.Clone(l[:cap(l)]) }

func TestWhatIsHandedInStays(t *testing.T) { // rule 2: and what stands behind it, which is not asked either
	lists := [][]int64{nil, {}, {1000}, {-1}, {0}, {1500, 1000}, {1000, 1500, 7, most}, {5, most + 1, 3, 2}, {most, 0, 1, math.MinInt64, 6}}
	for _, a := range lists {
		for _, b := range lists {
			v, g := roomy(a), roomy(b)
			wasV, wasG := all(v), all(g)
			for _, count := range []int{-1, 0, 4, room, room + 1} {
				for _, tol := range []int{-1, 0, 100, 1000, 1001} {
					agreeOnRows(t, count, v, g, tol)
				}
			}
			if !slices.Equal(all(v), wasV) || !slices.Equal(all(g), wasG) {
				t.Errorf("%v and %v were changed to %v and %v", wasV, wasG, all(v), all(g))
			}
		}
	}
}

func TestOneRowAsBoth(t *testing.T) { // rule 2: values and targets may be the same list
	l := roomy([]int64{1000, 7, most})
	was := all(l)
	wantsMost(t, 4, l, l, 0, 4)
	if !slices.Equal(all(l), was) {
		t.Errorf("%v was changed to %v", was, all(l))
	}
	l[1] = 0
	wantsNone(t, 4, l, l, 0)
}

func TestNothingIsKept(t *testing.T) { // rule 3: what was asked ahead changes no answer
	for range 100 {
		wantsMost(t, 4, []int64{1500, 9000}, []int64{1000, 1000}, 100, 36)
		wantsMost(t, 4, []int64{1500}, []int64{1000}, 100, 6)
		wantsNone(t, 4, []int64{1500, -1}, []int64{1000, 1000}, 100)
		wantsMost(t, 4, []int64{250, 0}, []int64{1000, 1000}, 100, 1)
		wants(t, 4, most, 1, 100, 1000000)
		wants(t, 4, 1500, 1000, 100, 6)
		wants(t, 4, -1, 1000, 100, 0)
		isIn(t, 1100, 1000, 100, true)
		isIn(t, 1101, 1000, 100, false)
	}
}

func TestTheSameEachTime(t *testing.T) { // rule 3: what others ask at one time, of the same rows, changes no answer
	dice := rand.New(rand.NewPCG(13, 7))
	var values, targets []int64
	for range 1000 {
		target := max(1, thrown(dice))
		values, targets = append(values, thrownNear(dice, target, 100)), append(targets, target)
	}
	var rows sync.WaitGroup
	for range 16 {
		rows.Go(func() {
			for count := range 20 {
				agreeOnRows(t, count, values, targets, 100)
				agreeOnRows(t, count, values[:2], targets[:2], 100)
				wantsNone(t, count, values[1:], targets, 100)
			}
		})
	}
	rows.Wait()
}
