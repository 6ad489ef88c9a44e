package log

import (
	"bytes"
	"math"
	"math/rand/v2"
	"slices"
	"sync"
	"testing"

	"quorumite/api"
	"quorumite/sector"
)

const (
	long  = 64   // bytes of a sector
	most  = 4096 // the last place
	last  = 250  // the last pass
	fits  = 48   // bytes of Data that a sector has room for
	first = 8    // where they begin
	sums  = 56   // where the sum stands
)

// wild are numbers at the ends of 64 bits, and where a smaller kind would wrap round to what may be.
func wild() []int {
	return []int{math.MinInt, math.MinInt + 1, math.MinInt + 3, -1 << 62, -1<<32 + 1, -1 << 32, -1 << 31, -1<<16 + 1, -1 << 16, -4097, -4096, -4095, -256, -255, -254, -253, -128, -3, -2, -1, 256*256 + 1, 256 * 256, 1<<16 + 2, 1<<31 - 1, 1 << 31, 1<<31 + 1, 1 << 32, 1<<32 + 1, 1<<32 + 3, 1<<48 + 1, 1<<56 + 1, 1 << 62, 1<<62 + 1, math.MaxInt - 1, math.MaxInt}
}

// noPasses are numbers of no pass: at the ends of 32 bits, and where fewer of them would be those of one.
func noPasses() []uint32 {
	l := []uint32{0, 1 << 16, 1<<16 + 1, 1<<16 + last, 1 << 24, 1<<24 + 1, 1<<24 + last, 1<<31 - 1, 1 << 31, 1<<31 + 1, 1<<31 + last, math.MaxUint32 - 1, math.MaxUint32}
	for n := uint32(last + 1); n <= 1025; n++ {
		l = append(l, n)
	}
	return l
}

// noPlaces are numbers of no place.
func noPlaces() []int { return append(wild(), most+1, most+2, 2*most, 65535) }

// noKinds are numbers of no kind.
func noKinds() []int { return append(wild(), 0, 4, 5, 127, 128, 255, 256, 257, 258, 259, 65537) }

// noData are rows of more bytes than there is room for, where fewer bits would tell a number that may be too.
func noData() [][]byte {
	var l [][]byte
	for _, n := range []int{49, 50, 55, 56, 57, 63, 64, 65, 128, 255, 256, 257, 256 + 48, 65535, 65536, 65537, 65536 + 48} {
		l = append(l, data(n, 3), make([]byte, n))
	}
	return l
}

// data is n bytes that start at from: of those that stand fewer than 256 apart each is another one.
func data(n int, from byte) []byte {
	b := make([]byte, n)
	for i := range b {
		b[i] = from + byte(i)
	}
	return b
}

// thrown is n bytes, thrown.
func thrown(dice *rand.Rand, n int) []byte {
	b := make([]byte, n)
	for i := range b {
		b[i] = byte(dice.Uint32())
	}
	return b
}

// some are cells that may be, of each part at its edges and between them.
func some() []Cell {
	var l []Cell
	for _, pass := range []uint32{1, 2, 127, 128, 249, last} {
		for _, place := range []int{0, 1, 255, 256, 257, 4095, most} {
			for kind := 1; kind <= 3; kind++ {
				for _, n := range []int{0, 1, 33, 47, fits} {
					l = append(l, Cell{Pass: pass, Place: place, Kind: kind, Data: data(n, byte(place)+byte(pass))})
				}
			}
		}
	}
	return l
}

// few are cells of which a test that goes through much of each has enough.
func few() []Cell {
	return []Cell{
		{Pass: 1, Place: 0, Kind: 1},
		{Pass: last, Place: most, Kind: 3, Data: bytes.Repeat([]byte{255}, fits)},
		{Pass: 129, Place: 258, Kind: 2, Data: data(47, 200)},
		{Pass: 7, Place: 31, Kind: 3, Data: []byte{9}},
		{Pass: 200, Place: 255, Kind: 1, Data: make([]byte, fits)},
		{Pass: 64, Place: 1000, Kind: 2, Data: append(data(20, 1), make([]byte, 10)...)},
	}
}

// bits of c are the bytes that Put makes of one that may be.
func bits(t *testing.T, c Cell) []byte {
	t.Helper()
	b, code := Put(c)
	if code != api.OK || len(b) != long {
		t.Fatalf("Put(%+v) is %x, %d", c, b, code)
	}
	return b
}

// same is whether both cells are one; it does not matter whether no Data are nil.
func same(a, b Cell) bool {
	return a.Pass == b.Pass && a.Place == b.Place && a.Kind == b.Kind && bytes.Equal(a.Data, b.Data)
}

// copied is c with Data of its own.
func copied(c Cell) Cell {
	c.Data = slices.Clone(c.Data)
	return c
}

// holds asks that b are the bytes of c, whole.
func holds(t *testing.T, b []byte, c Cell) {
	t.Helper()
	if got, whole, code := Get(b); !same(got, c) || !whole || code != api.OK {
		t.Fatalf("Get of %x is %+v, %t, %d, not %+v", b, got, whole, code, c)
	}
}

// tells asks that of b nothing is told but whether it is whole, and a code.
func tells(t *testing.T, b []byte, whole bool, code int) {
	t.Helper()
	if c, w, n := Get(b); !same(c, Cell{}) || w != whole || n != code {
		t.Fatalf("Get of %d bytes %x is %+v, %t, %d, not %t, %d", len(b), b, c, w, n, whole, code)
	}
}

// notWhole asks that b is told to be not whole.
func notWhole(t *testing.T, b []byte) {
	t.Helper()
	tells(t, b, false, api.OK)
}

// wrong asks that b is told to be whole, but what Put makes of no cell.
func wrong(t *testing.T, b []byte) {
	t.Helper()
	tells(t, b, true, api.ErrSum)
}

// added is a second telling of Sum: a byte of place n counts n times, once in each of the rows that end with the last byte and begin at n or ahead of it.
func added(b []byte) uint32 {
	var row, all uint64
	for _, x := range slices.Backward(b) {
		row = (row + uint64(x) + 1) % (1 << 32)
		all = (all + row) % (1 << 32)
	}
	return uint32(all)
}

// mended is b with the sum that belongs to what is ahead of it.
func mended(b []byte) []byte {
	b = slices.Clone(b)
	n := added(b[:sums])
	for i := range 4 {
		b[sums+i] = byte(n % 256)
		n /= 256
	}
	return b
}

// laid is a second telling of Put, byte by byte, of a cell that may be.
func laid(c Cell) []byte {
	b := []byte{byte(c.Pass), 0, 0, 0, byte(c.Place % 256), byte(c.Place / 256), byte(c.Kind), byte(len(c.Data))}
	b = append(b, c.Data...)
	for len(b) < long-1 {
		b = append(b, 0)
	}
	return mended(append(b, byte(c.Pass)))
}

// asked is a second telling of Get, of 64 bytes: each rule of what stands in them by itself.
func asked(b []byte) (Cell, bool, int) {
	noughts := func(from, to int) bool { return bytes.Equal(b[from:to], make([]byte, to-from)) }
	if b[0] < 1 || b[0] > last || !noughts(1, 4) || b[long-1] != b[0] {
		return Cell{}, false, api.OK
	}
	place, kind, n := int(b[4])+256*int(b[5]), int(b[6]), int(b[7])
	switch {
	case place > most, kind < 1, kind > 3, n > fits:
	case !noughts(first+n, sums), !noughts(60, 63), !bytes.Equal(mended(b), b):
	default:
		return Cell{Pass: uint32(b[0]), Place: place, Kind: kind, Data: b[first : first+n]}, true, api.OK
	}
	return Cell{}, true, api.ErrSum
}

// agrees holds Get of 64 bytes against its second telling.
func agrees(t *testing.T, b []byte) {
	t.Helper()
	c, whole, code := asked(b)
	if got, w, n := Get(b); !same(got, c) || w != whole || n != code {
		t.Fatalf("Get of %x is %+v, %t, %d, not %+v, %t, %d", b, got, w, n, c, whole, code)
	}
}

func TestTheNumbers(t *testing.T) { // those of package api
	if api.Sector != long || api.MaxSectors != most || api.ErrArg != 1 || api.ErrSum != 12 {
		t.Error("other numbers")
	}
}

func TestExample(t *testing.T) { // the chapter's
	if _, whole, _ := Get(make([]byte, long)); whole {
		t.Error("64 noughts are whole")
	}
}

func TestMarkAtTheEdges(t *testing.T) { // 18.1: 0, 1, 250, 251, and the ends of 32 bits
	for pass, want := range map[uint32]byte{0: 0, 1: 1, 2: 2, 127: 127, 128: 128, 249: 249, 250: 250, 251: 0, 252: 0, 255: 0, 256: 0, 257: 0, 506: 0, 1 << 31: 0, 1<<31 + 1: 0, math.MaxUint32 - 1: 0, math.MaxUint32: 0} {
		if m := Mark(pass); m != want {
			t.Errorf("Mark(%d) is %d", pass, m)
		}
	}
	for _, pass := range noPasses() {
		if m := Mark(pass); m != 0 {
			t.Errorf("Mark(%d) is %d", pass, m)
		}
	}
}

func TestMarkOfEachPass(t *testing.T) { // 18.1: it is the pass: so each has another one, and none of them is 0
	for pass := uint32(1); pass <= last; pass++ {
		if m := Mark(pass); uint32(m) != pass {
			t.Errorf("Mark(%d) is %d", pass, m)
		}
	}
	for pass := uint32(last + 1); pass < 1<<17; pass++ {
		if m := Mark(pass); m != 0 {
			t.Fatalf("Mark(%d) is %d", pass, m)
		}
	}
}

// sum holds Sum against what is asked for.
func sum(t *testing.T, b []byte, want uint32) {
	t.Helper()
	if n := Sum(b); n != want {
		t.Fatalf("Sum of %d bytes that begin with %x is %d, not %d", len(b), b[:min(len(b), 20)], n, want)
	}
}

func TestSumByHand(t *testing.T) { // 18.1
	for _, x := range []struct {
		b    []byte
		want uint32
	}{
		{nil, 0}, {[]byte{}, 0}, {make([]byte, 0, 9), 0},
		{[]byte{0}, 1}, {[]byte{1}, 2}, {[]byte{255}, 256},
		{[]byte{0, 0}, 3}, {[]byte{1, 0}, 4}, {[]byte{0, 1}, 5}, {[]byte{1, 2}, 8}, {[]byte{2, 1}, 7},
		{[]byte{255, 255}, 256 + 512},
		{[]byte{0, 0, 0}, 6}, {[]byte("abc"), 98 + 2*99 + 3*100}, {[]byte("cba"), 100 + 2*99 + 3*98},
		{[]byte{10, 0, 20, 0, 30}, 11 + 2 + 63 + 4 + 155},
	} {
		sum(t, x.b, x.want)
	}
}

func TestSumOfOneByte(t *testing.T) { // 18.1: each
	for x := range 256 {
		sum(t, []byte{byte(x)}, uint32(x)+1)
	}
}

func TestSumOfTwoBytes(t *testing.T) { // 18.1: all; the same ones in the other order have another sum
	for x := range 256 {
		for y := range 256 {
			sum(t, []byte{byte(x), byte(y)}, uint32(x+1+2*(y+1)))
			if a, b := Sum([]byte{byte(x), byte(y)}), Sum([]byte{byte(y), byte(x)}); (a == b) != (x == y) {
				t.Fatalf("%d and %d: %d, the other way %d", x, y, a, b)
			}
		}
	}
}

func TestSumInAnotherOrder(t *testing.T) { // 18.1: any two of other places and another kind change it by as much as they are apart
	b := data(sums, 31)
	n := Sum(b)
	for i := range b {
		for k := range i {
			c := slices.Clone(b)
			c[i], c[k] = c[k], c[i]
			sum(t, c, n-uint32((i-k)*(i-k)))
		}
	}
	slices.Reverse(b)
	sum(t, b, added(b))
	if Sum(b) == n {
		t.Error("the other way round it is the same")
	}
}

func TestSumOfNoughts(t *testing.T) { // 18.1: they count, so that more of them are another sum
	for n := range 2000 {
		sum(t, make([]byte, n), uint32(n*(n+1)/2))
		sum(t, append(make([]byte, n), 7), uint32(n*(n+1)/2+(n+1)*8))
	}
}

func TestSumOfEachByteAtEachPlace(t *testing.T) { // 18.1: it counts as often as its place from 1 on
	for i := range sums {
		for x := range 256 {
			b := make([]byte, sums)
			b[i] = byte(x)
			sum(t, b, uint32(sums*(sums+1)/2+(i+1)*x))
		}
	}
}

// ofSum is n bytes whose sum would be all, if it never went round.
func ofSum(t *testing.T, n, all int) []byte {
	t.Helper()
	b := make([]byte, n)
	rest := all - n*(n+1)/2
	for i := n - 1; i >= 0; i-- {
		x := min(max(rest/(i+1), 0), 255)
		b[i] = byte(x)
		rest -= x * (i + 1)
	}
	if rest != 0 {
		t.Fatalf("%d bytes have no sum of %d", n, all)
	}
	return b
}

func TestSumGoesRound(t *testing.T) { // 18.1: at 2^32, once and more often, and just below and above
	for _, round := range []int{1, 2, 3, 100} {
		for k := -3; k <= 3; k++ {
			for _, n := range []int{5800, 6000, 9000, 60000, 70000, 90000} {
				if all := round<<32 + k; all >= n*(n+1)/2 && all <= 256*(n*(n+1)/2) {
					sum(t, ofSum(t, n, all), uint32(all))
				}
			}
		}
	}
	sum(t, ofSum(t, 5800, 1<<31), 1<<31)
	sum(t, ofSum(t, 5800, 1<<32-1), math.MaxUint32)
	sum(t, ofSum(t, 5800, 1<<32), 0)
	sum(t, ofSum(t, 5800, 1<<32+1), 1)
}

func TestSumOfLongRows(t *testing.T) { // 18.1: where a place, and a place times a byte, goes beyond 16, 24 and 32 bits
	for _, n := range []int{255, 256, 257, 5792, 5793, 65535, 65536, 65537, 1 << 17, 1<<24 - 1, 1<<24 + 3} {
		b := bytes.Repeat([]byte{255}, n)
		sum(t, b, uint32(uint64(n)*uint64(n+1)/2*256%(1<<32)))
		b = data(n, 5)
		sum(t, b, added(b))
	}
}

func TestTheSecondTellingOfSum(t *testing.T) { // 18.1: of any bytes
	dice := rand.New(rand.NewPCG(18, 1))
	for range 3000 {
		b := thrown(dice, dice.IntN(300))
		sum(t, b, added(b))
	}
}

// may asks whether c may be; Put must tell likewise.
func may(t *testing.T, c Cell, want bool) {
	t.Helper()
	if May(c) != want {
		t.Fatalf("May of %d, %d, %d and %d bytes is %t", c.Pass, c.Place, c.Kind, len(c.Data), !want)
	}
	b, code := Put(c)
	if want && (code != api.OK || !bytes.Equal(b, laid(c))) {
		t.Fatalf("Put(%+v) is\n%x, %d, not\n%x", c, b, code, laid(c))
	}
	if !want && (b != nil || code != api.ErrArg) {
		t.Fatalf("Put of %d, %d, %d and %d bytes is %x, %d", c.Pass, c.Place, c.Kind, len(c.Data), b, code)
	}
}

func TestMayOfEachPass(t *testing.T) { // 18.1, 18.2: from 1 to 250
	for pass := uint32(1); pass <= last; pass++ {
		may(t, Cell{Pass: pass, Place: 5, Kind: 1, Data: data(9, 1)}, true)
	}
	for _, pass := range noPasses() {
		may(t, Cell{Pass: pass, Place: 5, Kind: 1, Data: data(9, 1)}, false)
	}
}

func TestMayOfEachPlace(t *testing.T) { // 18.1, 18.2: from 0 to MaxSectors
	for place := 0; place <= most; place++ {
		may(t, Cell{Pass: 3, Place: place, Kind: 2, Data: data(9, 1)}, true)
	}
	for _, place := range noPlaces() {
		may(t, Cell{Pass: 3, Place: place, Kind: 2, Data: data(9, 1)}, false)
	}
	for place := most + 1; place < 1<<17; place++ {
		may(t, Cell{Pass: 3, Place: place, Kind: 2}, false)
	}
}

func TestMayOfEachKind(t *testing.T) { // 18.1, 18.2: from 1 to 3
	for kind := 1; kind <= 3; kind++ {
		may(t, Cell{Pass: 3, Place: 5, Kind: kind, Data: data(9, 1)}, true)
	}
	for _, kind := range noKinds() {
		may(t, Cell{Pass: 3, Place: 5, Kind: kind, Data: data(9, 1)}, false)
	}
	for kind := 4; kind < 2000; kind++ {
		may(t, Cell{Pass: 3, Place: 5, Kind: kind}, false)
		may(t, Cell{Pass: 3, Place: 5, Kind: 3 - kind}, false)
	}
}

func TestMayOfDataOfEachLength(t *testing.T) { // 18.1, 18.2: none, nil, up to 48
	for n := 0; n <= fits; n++ {
		may(t, Cell{Pass: 3, Place: 5, Kind: 3, Data: data(n, 1)}, true)
		may(t, Cell{Pass: 3, Place: 5, Kind: 3, Data: make([]byte, n)}, true)
		may(t, Cell{Pass: 3, Place: 5, Kind: 3, Data: make([]byte, n, 1000)}, true)
	}
	may(t, Cell{Pass: 3, Place: 5, Kind: 3, Data: nil}, true)
	for _, b := range noData() {
		may(t, Cell{Pass: 3, Place: 5, Kind: 3, Data: b}, false)
	}
	for n := fits + 1; n < 1000; n++ {
		may(t, Cell{Pass: 3, Place: 5, Kind: 3, Data: data(n, 1)}, false)
	}
}

func TestMayOfAllWithAll(t *testing.T) { // 18.1, 18.2: it may be only if each part may
	for _, pass := range []uint32{0, 1, 2, last, last + 1, 256, 257, math.MaxUint32} {
		for _, place := range []int{math.MinInt, -1, 0, 1, most, most + 1, 65536, math.MaxInt} {
			for _, kind := range []int{math.MinInt, -1, 0, 1, 2, 3, 4, 257, math.MaxInt} {
				for _, n := range []int{0, 1, 47, 48, 49, 256, 300} {
					want := pass >= 1 && pass <= last && place >= 0 && place <= most && kind >= 1 && kind <= 3 && n <= fits
					may(t, Cell{Pass: pass, Place: place, Kind: kind, Data: data(n, 77)}, want)
				}
			}
		}
	}
	may(t, Cell{}, false)
}

func TestPutByHand(t *testing.T) { // 18.2: each byte
	noughts := func(n int) []byte { return make([]byte, n) }
	for _, x := range []struct {
		c    Cell
		want []byte
	}{
		{Cell{Pass: 1, Kind: 3}, // 1596 of the places, 1 of the first byte, 21 of the seventh
			slices.Concat([]byte{1, 0, 0, 0, 0, 0, 3, 0}, noughts(48), []byte{0x52, 0x06, 0, 0, 0, 0, 0, 1})},
		{Cell{Pass: 7, Place: 0x123, Kind: 1, Data: []byte("abc")}, // 1596 and 7, 175, 6, 7, 24, 873, 980, 1089
			slices.Concat([]byte{7, 0, 0, 0, 0x23, 1, 1, 3, 'a', 'b', 'c'}, noughts(45), []byte{0x95, 0x12, 0, 0, 0, 0, 0, 7})},
		{Cell{Pass: 250, Place: 4096, Kind: 2, Data: bytes.Repeat([]byte{255}, 48)}, // 1596 and 250, 96, 14, 384, and 255 times 1560
			slices.Concat([]byte{250, 0, 0, 0, 0, 16, 2, 48}, bytes.Repeat([]byte{255}, 48), []byte{0x0c, 0x1b, 0x06, 0, 0, 0, 0, 250})},
	} {
		if b := bits(t, x.c); !bytes.Equal(b, x.want) {
			t.Errorf("Put(%+v) is\n%x, not\n%x", x.c, b, x.want)
		}
		holds(t, x.want, x.c)
	}
}

func TestTheSecondTellingOfPut(t *testing.T) { // 18.2: of cells of all sorts
	for _, c := range some() {
		may(t, c, true)
	}
	dice := rand.New(rand.NewPCG(18, 2))
	for range 5000 {
		may(t, Cell{Pass: 1 + dice.Uint32N(last), Place: dice.IntN(most + 1), Kind: 1 + dice.IntN(3), Data: thrown(dice, dice.IntN(fits+1))}, true)
	}
}

func TestEachComesBack(t *testing.T) { // 18.2: each pass and kind, each place, each length
	for _, c := range append(some(), few()...) {
		holds(t, bits(t, c), c)
	}
	for pass := uint32(1); pass <= last; pass++ {
		for kind := 1; kind <= 3; kind++ {
			c := Cell{Pass: pass, Place: int(pass) * 16, Kind: kind, Data: data(int(pass)%49, byte(kind))}
			holds(t, bits(t, c), c)
		}
	}
	for place := 0; place <= most; place++ {
		c := Cell{Pass: 250, Place: place, Kind: 1 + place%3, Data: data(place%49, 200)}
		holds(t, bits(t, c), c)
	}
	for n := 0; n <= fits; n++ {
		for x := range 256 {
			c := Cell{Pass: 9, Place: 17, Kind: 3, Data: bytes.Repeat([]byte{byte(x)}, n)}
			holds(t, bits(t, c), c)
		}
	}
}

func TestNoTwoAreAlike(t *testing.T) { // 18.2: other cells have other bytes, of Data that end with noughts too
	seen := map[[long]byte]Cell{}
	for _, c := range some() {
		for range 3 {
			b := [long]byte(bits(t, c))
			if was, is := seen[b]; is && !same(was, c) {
				t.Fatalf("%+v and %+v have the same bytes", was, c)
			}
			seen[b] = copied(c)
			if len(c.Data) == fits {
				break
			}
			c.Data = append(slices.Clone(c.Data), 0)
		}
	}
}

func TestNoDataAndNil(t *testing.T) { // rule 5: they are the same
	a, b := bits(t, Cell{Pass: 5, Place: 6, Kind: 3, Data: nil}), bits(t, Cell{Pass: 5, Place: 6, Kind: 3, Data: []byte{}})
	if !bytes.Equal(a, b) {
		t.Errorf("%x and %x", a, b)
	}
	holds(t, a, Cell{Pass: 5, Place: 6, Kind: 3})
}

func TestGetOfOtherThanASector(t *testing.T) { // 18.2: none, nil, 63, 65 and others, that begin or end with a cell's bytes too
	whole := bits(t, few()[2])
	tells(t, nil, false, api.ErrArg)
	for n := 0; n <= 300; n++ {
		if n == long {
			continue
		}
		tells(t, make([]byte, n), false, api.ErrArg)
		tells(t, bytes.Repeat(whole, 5)[:n], false, api.ErrArg)
		tells(t, bytes.Repeat(whole, 5)[5*long-n:], false, api.ErrArg)
		tells(t, bytes.Repeat([]byte{1}, n), false, api.ErrArg)
	}
	tells(t, whole[:63], false, api.ErrArg)
	tells(t, whole[1:], false, api.ErrArg)
	tells(t, whole[:0], false, api.ErrArg)
	tells(t, append(slices.Clone(whole), 0), false, api.ErrArg)
	tells(t, bytes.Repeat(whole, 1<<10+1), false, api.ErrArg)
	holds(t, append(slices.Clone(whole), 9, 9)[:long], few()[2])
}

func TestGetOfNoughts(t *testing.T) { // 18.2: not whole, with the sum that belongs to them too
	notWhole(t, make([]byte, long))
	notWhole(t, mended(make([]byte, long)))
}

func TestGetOfOneByteAlone(t *testing.T) { // 18.2: each byte all over
	for x := range 256 {
		b := bytes.Repeat([]byte{byte(x)}, long)
		notWhole(t, b)
		notWhole(t, mended(b))
	}
}

// withPass is b with another number as its pass, and its sum.
func withPass(b []byte, pass uint32) []byte {
	b = slices.Clone(b)
	for i := range 4 {
		b[i] = byte(pass % 256)
		pass /= 256
	}
	return mended(b)
}

func TestGetOfNoPass(t *testing.T) { // 18.2: not whole, whatever the last byte is, and whether the sum belongs to it or not
	for _, c := range few() {
		b := bits(t, c)
		for _, pass := range noPasses() {
			n := withPass(b, pass)
			for x := range 256 {
				n[long-1] = byte(x)
				notWhole(t, n)
			}
			n[sums]++
			notWhole(t, n)
			n[6] = 0
			notWhole(t, n)
		}
	}
}

func TestGetOfEachPassAndLastByte(t *testing.T) { // 18.2: whole just if it is the Mark, whatever else is wrong
	for pass := range uint32(256) {
		for x := range 256 {
			c := Cell{Pass: pass, Place: 9, Kind: 3, Data: data(9, 9)}
			b := withPass(bits(t, Cell{Pass: 1, Place: 9, Kind: 3, Data: data(9, 9)}), pass)
			b[long-1] = byte(x)
			if pass < 1 || pass > last || uint32(x) != pass {
				notWhole(t, b)
				b[sums]++
				notWhole(t, b)
				b[7] = 255
				notWhole(t, mended(b))
				continue
			}
			holds(t, b, c)
			b[sums]++
			wrong(t, b)
			b[7] = 255
			wrong(t, b)
			wrong(t, mended(b))
		}
	}
}

func TestGetOfOneBitTurned(t *testing.T) { // 18.2: in each byte each one: of the pass and the mark it is not whole, of any other one it is wrong
	for _, c := range append(some(), few()...) {
		b := bits(t, c)
		for place := range long {
			for k := range 8 {
				b[place] ^= 1 << k
				if place < 4 || place == long-1 {
					notWhole(t, b)
				} else {
					wrong(t, b)
				}
				b[place] ^= 1 << k
			}
		}
		holds(t, b, c)
	}
}

func TestGetOfOneByteChanged(t *testing.T) { // 18.2: each one to each other one
	for _, c := range few() {
		b := bits(t, c)
		for place, was := range slices.Clone(b) {
			for x := range 256 {
				b[place] = byte(x)
				switch {
				case b[place] == was:
					holds(t, b, c)
				case place < 4 || place == long-1:
					notWhole(t, b)
				default:
					wrong(t, b)
				}
			}
			b[place] = was
		}
	}
}

func TestGetOfTwoBitsTurned(t *testing.T) { // 18.2: all pairs, against the second telling: the sum may stay the same
	for _, c := range few() {
		b := bits(t, c)
		for i := range 8 * long {
			b[i/8] ^= 1 << (i % 8)
			for k := range i {
				b[k/8] ^= 1 << (k % 8)
				agrees(t, b)
				b[k/8] ^= 1 << (k % 8)
			}
			b[i/8] ^= 1 << (i % 8)
		}
	}
}

func TestGetOfNoPlaceWithItsSum(t *testing.T) { // 18.2: wrong above MaxSectors, in two bytes
	for place := 0; place < 1<<16; place++ {
		b := bits(t, Cell{Pass: 250, Place: 1, Kind: 1 + place%3, Data: data(place%49, 3)})
		b[4], b[5] = byte(place%256), byte(place/256)
		b = mended(b)
		if place > most {
			wrong(t, b)
		} else {
			holds(t, b, Cell{Pass: 250, Place: place, Kind: 1 + place%3, Data: data(place%49, 3)})
		}
	}
}

func TestGetOfNoKindWithItsSum(t *testing.T) { // 18.2: wrong of 0, and of 4 and above
	for _, c := range few() {
		for kind := range 256 {
			b := bits(t, c)
			b[6] = byte(kind)
			b = mended(b)
			if kind < 1 || kind > 3 {
				wrong(t, b)
			} else {
				holds(t, b, Cell{Pass: c.Pass, Place: c.Place, Kind: kind, Data: c.Data})
			}
		}
	}
}

func TestGetOfOtherCountsWithItsSum(t *testing.T) { // 18.2: wrong above 48, and if one that counts no more is not 0; more that are 0 are Data
	for n := 0; n <= fits; n++ {
		for _, d := range [][]byte{data(n, 1), make([]byte, n)} {
			c := Cell{Pass: 8, Place: 9, Kind: 3, Data: d}
			for count := range 256 {
				b := bits(t, c)
				b[7] = byte(count)
				b = mended(b)
				all := append(slices.Clone(d), make([]byte, 256)...)
				if count > fits || count < n && d[n-1] != 0 {
					wrong(t, b)
				} else {
					holds(t, b, Cell{Pass: 8, Place: 9, Kind: 3, Data: all[:count]})
				}
			}
		}
	}
}

func TestGetOfMoreBehindTheDataWithItsSum(t *testing.T) { // 18.2: what is behind the Data is 0, each byte
	for n := 0; n <= fits; n++ {
		c := Cell{Pass: 8, Place: 9, Kind: 2, Data: data(n, 100)}
		for place := first; place < sums; place++ {
			for _, x := range []byte{0, 1, 2, 8, 127, 128, 255} {
				b := bits(t, c)
				b[place] = x
				b = mended(b)
				switch {
				case place < first+n:
					d := slices.Clone(c.Data)
					d[place-first] = x
					holds(t, b, Cell{Pass: 8, Place: 9, Kind: 2, Data: d})
				case x == 0:
					holds(t, b, c)
				default:
					wrong(t, b)
				}
			}
		}
	}
}

func TestGetOfAnotherSum(t *testing.T) { // 18.2: of any other number there, and of bytes between it and the Mark
	dice := rand.New(rand.NewPCG(18, 3))
	for _, c := range few() {
		b := bits(t, c)
		n := added(b[:sums])
		others := []uint32{0, 1, n - 1, n + 1, ^n, -n, n << 8, n << 16, n << 24, n + 1<<8, n + 1<<16, n + 1<<24, n ^ 1<<31, math.MaxUint32, 1 << 31}
		for range 200 {
			others = append(others, dice.Uint32())
		}
		for _, x := range others {
			for i := range 4 {
				b[sums+i] = byte(x >> (8 * i))
			}
			if x == n {
				holds(t, b, c)
			} else {
				wrong(t, b)
			}
		}
		b = mended(b)
		slices.Reverse(b[sums : sums+4])
		wrong(t, b)
		b = mended(b)
		for x := 1; x < 1<<24; x += 1 + dice.IntN(5000) {
			b[60], b[61], b[62] = byte(x), byte(x>>8), byte(x>>16)
			wrong(t, b)
		}
	}
}

func TestTheSecondTellingAnywhere(t *testing.T) { // 18.2: of bytes of which some are thrown, with their sum or not
	dice := rand.New(rand.NewPCG(18, 4))
	edges := []byte{0, 1, 2, 3, 4, 15, 16, 17, 47, 48, 49, 56, 250, 251, 255}
	whole := 0
	for range 300000 {
		b := bits(t, Cell{Pass: 1 + dice.Uint32N(last), Place: dice.IntN(most + 1), Kind: 1 + dice.IntN(3), Data: thrown(dice, dice.IntN(fits+1))})
		for range dice.IntN(4) {
			b[dice.IntN(long)] = byte(dice.Uint32())
		}
		for range dice.IntN(3) {
			b[4+dice.IntN(4)] = edges[dice.IntN(len(edges))]
		}
		if dice.IntN(4) > 0 {
			b = mended(b)
		}
		if dice.IntN(4) > 0 {
			b[long-1] = b[0]
		}
		agrees(t, b)
		if _, _, code := Get(b); code == api.OK {
			whole++
		}
	}
	if whole < 10000 || whole > 290000 {
		t.Errorf("only one sort: %d are well", whole)
	}
	for range 30000 {
		agrees(t, thrown(dice, long))
	}
}

func TestWhatGetTakesPutMakes(t *testing.T) { // 18.2: no bytes but those that Put makes are well
	dice := rand.New(rand.NewPCG(18, 5))
	for range 100000 {
		b := thrown(dice, long)
		b[0], b[1], b[2], b[3] = byte(1+dice.IntN(last)), 0, 0, 0
		b[5], b[6], b[7] = byte(dice.IntN(18)), byte(dice.IntN(5)), byte(dice.IntN(52))
		if n := first + int(b[7]); dice.IntN(8) > 0 && n < sums {
			clear(b[n:sums])
		}
		clear(b[60:63])
		b[long-1] = b[0]
		b = mended(b)
		c, is, code := Get(b)
		if again, fail := Put(c); is && code == api.OK && (fail != api.OK || !bytes.Equal(again, b)) {
			t.Fatalf("Get of\n%x is %+v, of which Put makes\n%x", b, c, again)
		}
		agrees(t, b)
	}
}

func TestABeginningOverNoughts(t *testing.T) { // 18.3: not whole, of each length; all of it is
	for _, c := range append(some(), few()...) {
		b := bits(t, c)
		for n := range long {
			notWhole(t, append(slices.Clone(b[:n]), make([]byte, long-n)...))
		}
		holds(t, b, c)
	}
}

func TestABeginningOverOneOfAnotherPass(t *testing.T) { // 18.3: of all passes over all others, and each length
	for old := uint32(1); old <= last; old++ {
		was := bits(t, Cell{Pass: old, Place: int(old), Kind: 3, Data: data(int(old)%49, byte(old))})
		for pass := uint32(1); pass <= last; pass++ {
			if pass == old {
				continue
			}
			c := Cell{Pass: pass, Place: int(old), Kind: 1 + int(pass)%3, Data: data(int(pass)%49, byte(pass))}
			b := bits(t, c)
			there := slices.Clone(was)
			holds(t, there, Cell{Pass: old, Place: int(old), Kind: 3, Data: data(int(old)%49, byte(old))})
			for n := 1; n < long; n++ {
				there[n-1] = b[n-1]
				notWhole(t, there)
			}
			there[long-1] = b[long-1]
			holds(t, there, c)
		}
	}
}

func TestABeginningOverOneLikeIt(t *testing.T) { // 18.3: of cells that are alike but for their pass
	for _, c := range some() {
		for _, old := range []uint32{1, 2, 3, 127, 128, 248, 249, last} {
			if old == c.Pass {
				continue
			}
			o := copied(c)
			o.Pass = old
			was, b := bits(t, o), bits(t, c)
			for n := 1; n < long; n++ {
				notWhole(t, append(slices.Clone(b[:n]), was[n:]...))
			}
			holds(t, was, o)
			holds(t, b, c)
		}
	}
}

func TestBeginningsOverBeginnings(t *testing.T) { // 18.3: of one pass, one after another, over one of another pass or noughts, until all of one is there
	dice := rand.New(rand.NewPCG(18, 6))
	for range 3000 {
		d := sector.New(1)
		old := dice.Uint32N(last + 1)
		if old > 0 {
			d.Write(0, bits(t, Cell{Pass: old, Place: 3, Kind: 3, Data: thrown(dice, dice.IntN(fits+1))}))
		}
		pass := 1 + dice.Uint32N(last)
		if pass == old {
			continue
		}
		var c Cell
		for range 6 {
			c = Cell{Pass: pass, Place: dice.IntN(most + 1), Kind: 1 + dice.IntN(3), Data: thrown(dice, dice.IntN(fits+1))}
			d.Tear(1 + dice.IntN(63))
			d.Write(0, bits(t, c))
			d.Up()
			b, _ := d.Read(0)
			notWhole(t, b)
		}
		d.Write(0, bits(t, c))
		b, _ := d.Read(0)
		holds(t, b, c)
	}
}

// row is a pass's cell of a place.
func row(pass uint32, place int) Cell {
	return Cell{Pass: pass, Place: place, Kind: 1 + place%3, Data: data(place*7%49, byte(place)+byte(pass))}
}

func TestAtWhicheverWriteItCrashes(t *testing.T) { // T4: what was written ahead is found, of it no more than all or nothing, and behind it what was there
	const n = 8
	for _, old := range []uint32{0, 1} {
		for crash := range n {
			for stay := 0; stay <= long; stay++ {
				d := sector.New(n)
				for place := range n {
					if old > 0 {
						d.Write(place, bits(t, row(old, place)))
					}
				}
				for place := range n {
					if place == crash {
						d.Tear(stay)
					}
					d.Write(place, bits(t, row(old+2, place)))
				}
				d.Up()
				for place := range n {
					b, _ := d.Read(place)
					switch {
					case place < crash || place == crash && stay == long:
						holds(t, b, row(old+2, place))
					case place == crash && stay > 0, old == 0:
						notWhole(t, b)
					default:
						holds(t, b, row(old, place))
					}
				}
				for place := crash; place < n; place++ {
					d.Write(place, bits(t, row(old+2, place)))
				}
				for place := range n {
					b, _ := d.Read(place)
					holds(t, b, row(old+2, place))
				}
			}
		}
	}
}

func TestWhatWasSpoiltIsTold(t *testing.T) { // 18.2: on a disk, of each place: never as another cell
	for _, c := range few() {
		for place := range long {
			for _, turn := range []byte{1, 2, 128, 255} {
				d := sector.New(1)
				d.Write(0, bits(t, c))
				d.Spoil(0, place, turn)
				b, _ := d.Read(0)
				if place < 4 || place == long-1 {
					notWhole(t, b)
				} else {
					wrong(t, b)
				}
				d.Spoil(0, place, turn)
				b, _ = d.Read(0)
				holds(t, b, c)
			}
		}
	}
}

func TestWithAnErrorNothingElse(t *testing.T) { // rule 4: nil, no cell; and false beside ErrArg, true beside ErrSum
	for _, c := range []Cell{{}, {Pass: 251, Kind: 1}, {Pass: 1, Place: -1, Kind: 1}, {Pass: 1, Kind: 4}, {Pass: 1, Kind: 1, Data: data(49, 1)}} {
		if b, code := Put(c); b != nil || code != api.ErrArg {
			t.Errorf("Put(%+v) is %x, %d", c, b, code)
		}
	}
	b := bits(t, few()[1])
	for _, x := range []struct {
		b     []byte
		whole bool
		code  int
	}{{b[:63], false, api.ErrArg}, {nil, false, api.ErrArg}, {make([]byte, long), false, api.OK}, {append(slices.Clone(b[:63]), 3), false, api.OK}, {append([]byte{last, 0, 0, 0, 1}, b[5:]...), true, api.ErrSum}} {
		c, whole, code := Get(x.b)
		if c.Pass != 0 || c.Place != 0 || c.Kind != 0 || c.Data != nil || whole != x.whole || code != x.code {
			t.Errorf("Get of %x is %+v, %t, %d", x.b, c, whole, code)
		}
	}
}

// roomy is b with bytes behind it that are not handed in.
func roomy(b []byte) []byte { return append(slices.Clone(b), data(99, 77)...)[:len(b)] }

// beyond is all of b, and of what stands behind it.
func beyond(b []byte) []byte { return slices.Clone(b[:cap(b)]) }

func TestWhatIsHandedInStays(t *testing.T) { // rule 2: with what stands behind it, whether it may be or not
	for n := 0; n <= 100; n++ {
		for _, kind := range []int{0, 1, 3, 4} {
			in := roomy(data(n, 5))
			was := beyond(in)
			c := Cell{Pass: 3, Place: 4, Kind: kind, Data: in}
			May(c)
			b, _ := Put(c)
			Sum(in)
			Get(in)
			clear(b)
			if !bytes.Equal(beyond(in), was) {
				t.Fatalf("%d bytes that were handed in changed", n)
			}
		}
	}
	for _, c := range few() {
		for place := range long + 1 {
			in := roomy(bits(t, c))
			if place < long {
				in[place] ^= 9
			}
			was := beyond(in)
			got, _, _ := Get(in)
			Sum(in)
			clear(got.Data[:cap(got.Data)])
			if !bytes.Equal(beyond(in), was) {
				t.Fatalf("what was handed in became %x", in)
			}
		}
	}
}

func TestWhatWasHandedInMayBeChanged(t *testing.T) { // rule 2: what was told doesn't change by it
	for _, c := range few() {
		c = copied(c)
		was := copied(c)
		b := bits(t, c)
		clear(c.Data)
		holds(t, b, was)
		got, _, _ := Get(b)
		clear(b)
		if !same(got, was) {
			t.Errorf("what was told became %+v", got)
		}
	}
}

func TestWhatWasToldMayBeChanged(t *testing.T) { // rule 2: nothing else that is or was told changes by it
	for _, c := range append(some(), few()...) {
		a, b := bits(t, c), bits(t, c)
		x, _, _ := Get(b)
		y, _, _ := Get(b)
		clear(a[:cap(a)])
		_ = append(a[:10], data(99, 1)...)
		clear(x.Data[:cap(x.Data)])
		_ = append(x.Data, data(99, 1)...)
		if !same(y, c) {
			t.Fatalf("%+v became %+v with what else was told", c, y)
		}
		holds(t, b, c)
		if !bytes.Equal(bits(t, c), b) {
			t.Fatalf("%+v is told another way now", c)
		}
	}
}

func TestTheSameEachTime(t *testing.T) { // rule 3: whatever was asked ahead, and by how many at once
	run := func() []byte {
		dice := rand.New(rand.NewPCG(18, 7))
		var told []byte
		for range 2000 {
			b, code := Put(Cell{Pass: dice.Uint32N(300), Place: dice.IntN(5000) - 100, Kind: dice.IntN(5), Data: thrown(dice, dice.IntN(52))})
			told = append(append(told, b...), byte(code))
			if b == nil {
				continue
			}
			b[dice.IntN(long)] ^= byte(dice.IntN(3))
			c, whole, code := Get(b)
			told = append(append(told, c.Data...), byte(c.Pass), byte(c.Place), byte(c.Kind), byte(code), byte(Sum(b)))
			if whole {
				told = append(told, Mark(c.Pass))
			}
		}
		return told
	}
	want := run()
	var all sync.WaitGroup
	for range 16 {
		all.Go(func() {
			if !bytes.Equal(run(), want) {
				t.Error("the same calls gave other answers")
			}
		})
	}
	all.Wait()
}

func TestTheSameBytesAskedByManyAtOnce(t *testing.T) { // rule 3: what only is read may be asked at one time
	c := few()[2]
	b := bits(t, c)
	n := Sum(b)
	var all sync.WaitGroup
	for range 16 {
		all.Go(func() {
			for range 500 {
				got, whole, code := Get(b)
				again, fail := Put(c)
				if !same(got, c) || !whole || code != api.OK || fail != api.OK || !bytes.Equal(again, b) || Sum(b) != n || !May(c) {
					t.Error("it is told another way")
					return
				}
			}
		})
	}
	all.Wait()
}
