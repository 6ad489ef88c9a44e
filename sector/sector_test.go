package sector

import (
	"bytes"
	"math"
	"math/rand/v2"
	"slices"
	"sync"
	"testing"

	"quorumite/api"
)

const (
	long = 64   // bytes of a sector
	most = 4096 // sectors of a disk
)

// wild are numbers at the ends of 64 bits, and where a smaller kind would wrap round to what may be.
func wild() []int {
	return []int{math.MinInt, math.MinInt + 1, math.MinInt + 5, -1 << 62, -1 << 32, -1<<32 + 1, -1 << 31, -1 << 16, -1<<16 + 1, -4097, -4096, -4095, -256, -255, -128, -65, -64, -63, -2, -1, 1 << 16, 1<<16 + 1, 1<<31 - 1, 1 << 31, 1 << 32, 1<<32 + 1, 1 << 62, 1<<62 + 1, math.MaxInt - 1, math.MaxInt}
}

// of is a sector's bytes that start at first: each is another one, and of two that start 64 apart no byte is the same at its place.
func of(first byte) []byte {
	b := make([]byte, long)
	for i := range b {
		b[i] = first + byte(i)
	}
	return b
}

// not is as many bytes as b has, each of them with all of its bits another way.
func not(b []byte) []byte {
	var n []byte
	for _, x := range b {
		n = append(n, 255-x)
	}
	return n
}

// made is a Disk of a number of sectors of which it is known that it may be.
func made(t *testing.T, n int) *Disk {
	t.Helper()
	d := New(n)
	if d == nil {
		t.Fatalf("New(%d) is nil", n)
	}
	return d
}

// filled is a Disk of n sectors that each were written once: sector i has of(37 * i).
func filled(t *testing.T, n int) *Disk {
	t.Helper()
	d := made(t, n)
	for i := range n {
		writes(t, d, i, of(byte(37*i)))
	}
	return d
}

// writes writes b, all of which must get there.
func writes(t *testing.T, d *Disk, at int, b []byte) {
	t.Helper()
	was := d.Writes()
	if code := d.Write(at, b); code != api.OK {
		t.Fatalf("Write to %d of %d is %d", at, d.Len(), code)
	}
	has(t, d, at, b)
	counts(t, d, was+1)
	isDown(t, d, false)
}

// tears writes b while a Tear waits that lets n bytes of it stay, and asks for these, with those that were there behind them.
func tears(t *testing.T, d *Disk, at int, b []byte, n int) {
	t.Helper()
	was, count := whole(t, d), d.Writes()
	if code := d.Write(at, b); code != api.ErrDown {
		t.Fatalf("a torn Write to %d of %d is %d", at, d.Len(), code)
	}
	was[at] = slices.Concat(b[:n], was[at][n:])
	holds(t, d, was)
	counts(t, d, count+1)
	isDown(t, d, true)
}

// refuses asks that a Write tells the error, and that nothing changes by it.
func refuses(t *testing.T, d *Disk, at int, b []byte, want int) {
	t.Helper()
	was, count, down := whole(t, d), d.Writes(), d.Down()
	if code := d.Write(at, b); code != want {
		t.Errorf("Write of %d bytes to %d of %d is %d, not %d", len(b), at, d.Len(), code, want)
	}
	holds(t, d, was)
	counts(t, d, count)
	isDown(t, d, down)
}

// spoils spoils a place, which must go, and asks that nothing else changes by it.
func spoils(t *testing.T, d *Disk, at, place int, turn byte) {
	t.Helper()
	was, count, down := whole(t, d), d.Writes(), d.Down()
	if code := d.Spoil(at, place, turn); code != api.OK {
		t.Fatalf("Spoil(%d, %d, %d) of %d is %d", at, place, turn, d.Len(), code)
	}
	was[at][place] = was[at][place]&^turn | turn&^was[at][place]
	holds(t, d, was)
	counts(t, d, count)
	isDown(t, d, down)
}

// read is what is read of a sector that is there.
func read(t *testing.T, d *Disk, at int) []byte {
	t.Helper()
	b, code := d.Read(at)
	if code != api.OK || len(b) != long {
		t.Fatalf("Read(%d) of %d is %d bytes, %d", at, d.Len(), len(b), code)
	}
	return b
}

// whole is what is read of all sectors.
func whole(t *testing.T, d *Disk) [][]byte {
	t.Helper()
	var all [][]byte
	for at := range d.Len() {
		all = append(all, read(t, d, at))
	}
	return all
}

// has holds a sector against what is asked for.
func has(t *testing.T, d *Disk, at int, b []byte) {
	t.Helper()
	if got := read(t, d, at); !bytes.Equal(got, b) {
		t.Fatalf("sector %d of %d is\n%x, not\n%x", at, d.Len(), got, b)
	}
}

// holds holds all sectors against what is asked for.
func holds(t *testing.T, d *Disk, all [][]byte) {
	t.Helper()
	if d.Len() != len(all) {
		t.Fatalf("Len is %d, not %d", d.Len(), len(all))
	}
	for at, b := range all {
		has(t, d, at, b)
	}
}

// counts holds Writes against what is asked for.
func counts(t *testing.T, d *Disk, n int) {
	t.Helper()
	if d.Writes() != n {
		t.Fatalf("Writes is %d, not %d", d.Writes(), n)
	}
}

// isDown holds Down against what is asked for.
func isDown(t *testing.T, d *Disk, down bool) {
	t.Helper()
	if d.Down() != down {
		t.Fatalf("Down is %t", d.Down())
	}
}

// noSector are numbers of no sector of a disk that has n of them.
func noSector(n int) []int {
	l := []int{n, n + 1, 2 * n, n + 256, n + 1<<16, n + 1<<32, math.MinInt + n, -n}
	return append(l, wild()...)
}

// noBytes are rows of bytes that are not a sector's: fewer, more, none, and some that have room for a sector's.
func noBytes() [][]byte {
	l := [][]byte{nil, {}, make([]byte, 0, long), of(9)[:63], of(9)[:63:63], of(9)[1:], of(9)[:0], of(9)[:1], of(9)[:32]}
	for _, n := range []int{1, 2, 62, 63, 65, 66, 127, 128, 129, 256, 256 + 64, 1<<16 + 64} {
		l = append(l, bytes.Repeat([]byte{7}, n))
	}
	return l
}

func TestNewAtTheEdges(t *testing.T) { // 17.1: from 1 to MaxSectors, and one beyond on either side
	for n := 1; n <= most; n++ {
		if d := made(t, n); d.Len() != n {
			t.Fatalf("Len of New(%d) is %d", n, d.Len())
		}
	}
	for _, n := range append(wild(), 0, most+1, most+2, 2*most, most+1<<16, 1<<32+most) {
		if d := New(n); d != nil {
			t.Errorf("New(%d) is not nil", n)
		}
	}
}

func TestNewBegins(t *testing.T) { // 17.1: all bytes are 0, nothing was written, it is up, and no Tear waits
	for _, n := range []int{1, 2, 3, 63, 64, 65, 255, 256, 257, most - 1, most} {
		d := made(t, n)
		for at := range n {
			has(t, d, at, make([]byte, long))
		}
		counts(t, d, 0)
		isDown(t, d, false)
		writes(t, d, n-1, of(1))
	}
}

func TestTheNumbers(t *testing.T) { // 17.1: those of package api
	if api.Sector != long || api.MaxSectors != most {
		t.Errorf("a sector has %d bytes, a disk up to %d", api.Sector, api.MaxSectors)
	}
}

func TestExample(t *testing.T) { // the chapter's, and the document's eighth
	d := made(t, 1)
	d.Tear(3)
	if code := d.Write(0, bytes.Repeat([]byte{9}, long)); code != api.ErrDown {
		t.Errorf("Write is %d", code)
	}
	has(t, d, 0, append([]byte{9, 9, 9}, make([]byte, 61)...))
	isDown(t, d, true)
	counts(t, d, 1)
}

func TestWriteAtEachSector(t *testing.T) { // 17.1: it is that one, and no other: the first and the last one, and all between
	for _, n := range []int{1, 2, 3, 7, 64, 65} {
		for at := range n {
			d := filled(t, n)
			was := whole(t, d)
			was[at] = not(was[at])
			writes(t, d, at, was[at])
			holds(t, d, was)
		}
	}
}

func TestWriteOfAsManyAsThereMayBe(t *testing.T) { // 17.1: each of them has its own bytes, those at the ends too
	d := made(t, most)
	told := func(at int) []byte { return slices.Concat(of(byte(at))[:32], of(byte(at / 256))[:32]) }
	for _, at := range rand.New(rand.NewPCG(17, 1)).Perm(most) {
		writes(t, d, at, told(at))
	}
	for at := range most {
		has(t, d, at, told(at))
	}
	counts(t, d, most)
	writes(t, d, 0, of(200))
	writes(t, d, most-1, of(100))
	has(t, d, 0, of(200))
	has(t, d, 1, told(1))
	has(t, d, most-2, told(most-2))
}

func TestWriteOverAndOver(t *testing.T) { // 17.1: the last one is there, all of it; each counts, the same once more too
	d := filled(t, 3)
	for first := range 256 {
		writes(t, d, 1, of(byte(first)))
		writes(t, d, 1, of(byte(first)))
	}
	writes(t, d, 1, make([]byte, long))
	has(t, d, 0, of(0))
	has(t, d, 2, of(74))
	counts(t, d, 3+2*256+1)
}

func TestWriteOfEachByteAtEachPlace(t *testing.T) { // 17.1
	d := made(t, 2)
	for place := range long {
		for x := range 256 {
			b := of(byte(place))
			b[place] = byte(x)
			writes(t, d, 1, b)
		}
	}
	has(t, d, 0, make([]byte, long))
}

func TestWriteOfNoSector(t *testing.T) { // 17.1: one beyond on either side, and any other
	for _, n := range []int{1, 2, 5, 64} {
		d := filled(t, n)
		for _, at := range append(noSector(n), most, most+1) {
			refuses(t, d, at, of(3), api.ErrArg)
		}
	}
	d := made(t, most)
	for _, at := range []int{-1, most, most + 1, math.MinInt, math.MaxInt} {
		refuses(t, d, at, of(3), api.ErrArg)
	}
}

func TestWriteOfOtherThanASectorsBytes(t *testing.T) { // 17.1: 63, 65, none, nil; with a sector and with none
	d := filled(t, 3)
	for _, b := range noBytes() {
		for _, at := range []int{0, 1, 2, 3, -1, math.MaxInt} {
			refuses(t, d, at, b, api.ErrArg)
		}
	}
	writes(t, d, 0, of(9)[:64])
	writes(t, d, 2, append(of(8), 1, 2, 3)[:64])
}

func TestRead(t *testing.T) { // 17.1: the first and the last one, and one beyond on either side; it changes nothing
	for _, n := range []int{1, 2, 5, 64} {
		d := filled(t, n)
		was := whole(t, d)
		for at := range n {
			has(t, d, at, of(byte(37*at)))
		}
		for _, at := range noSector(n) {
			if b, code := d.Read(at); b != nil || code != api.ErrArg {
				t.Errorf("Read(%d) of %d is %x, %d", at, n, b, code)
			}
		}
		holds(t, d, was)
		counts(t, d, n)
		isDown(t, d, false)
	}
}

func TestReadWhileDown(t *testing.T) { // 17.1: as ever: the torn one, the others, and none
	d := filled(t, 3)
	d.Tear(5)
	tears(t, d, 1, of(100), 5)
	has(t, d, 0, of(0))
	has(t, d, 1, append(of(100)[:5], of(37)[5:]...))
	has(t, d, 2, of(74))
	for _, at := range noSector(3) {
		if b, code := d.Read(at); b != nil || code != api.ErrArg {
			t.Errorf("Read(%d) while down is %x, %d", at, b, code)
		}
	}
	isDown(t, d, true)
}

func TestTearOfEachLength(t *testing.T) { // 17.1, 17.3: none, some, all: those are there, the others as they were, of each sector
	for n := 0; n <= long; n++ {
		for at := range 3 {
			d := filled(t, 3)
			was := whole(t, d)
			d.Tear(n)
			holds(t, d, was)
			isDown(t, d, false)
			tears(t, d, at, not(was[at]), n)
			counts(t, d, 4)
		}
	}
}

func TestTearBeyond(t *testing.T) { // 17.1: below 0 as 0, above 64 as 64: it was not all then either
	for _, n := range append(wild(), 65, 66, 127, 128, 129, 256, 257, 256+3) {
		d := filled(t, 2)
		stay := 0
		if n > 0 {
			stay = long
		}
		d.Tear(n)
		tears(t, d, 1, of(200), stay)
		d.Up()
		writes(t, d, 1, of(3))
	}
}

func TestALaterTear(t *testing.T) { // 17.1: it counts, whether it lets more stay or less; the one ahead of it doesn't come behind
	lengths := []int{math.MinInt, -1, 0, 1, 2, 31, 32, 63, 64, 65, math.MaxInt}
	for _, a := range lengths {
		for _, b := range lengths {
			d := filled(t, 2)
			d.Tear(a)
			d.Tear(b)
			tears(t, d, 0, of(100), min(max(b, 0), long))
			refuses(t, d, 1, of(101), api.ErrDown)
			d.Up()
			writes(t, d, 0, of(102))
			writes(t, d, 1, of(103))
		}
	}
}

func TestTearsOneByOne(t *testing.T) { // 17.1, 17.3: of one sector, over what the last one left
	d := made(t, 1)
	for k, n := range []int{64, 40, 63, 1, 0, 20, 64, 2, 0, 65} {
		d.Tear(n)
		tears(t, d, 0, of(byte(64*k+k)), min(n, long))
		d.Up()
	}
	counts(t, d, 10)
}

func TestATearWaitsOn(t *testing.T) { // 17.1: while Writes are errors, and through all that is no Write
	for _, n := range []int{-1, 0, 1, 63, 64, 65} {
		d := filled(t, 3)
		d.Tear(n)
		for _, at := range noSector(3) {
			refuses(t, d, at, of(3), api.ErrArg)
		}
		for _, b := range noBytes() {
			refuses(t, d, 1, b, api.ErrArg)
			refuses(t, d, 3, b, api.ErrArg)
		}
		spoils(t, d, 1, 7, 200)
		if code := d.Spoil(1, 64, 1); code != api.ErrArg {
			t.Errorf("Spoil is %d", code)
		}
		if _, code := d.Read(3); code != api.ErrArg {
			t.Errorf("Read is %d", code)
		}
		isDown(t, d, false)
		tears(t, d, 1, of(100), min(max(n, 0), long))
	}
}

func TestATearWaitsForOne(t *testing.T) { // 17.1: it is the next Write whichever sector that is of; then it is gone
	for at := range 3 {
		d := filled(t, 3)
		d.Tear(10)
		tears(t, d, at, of(100), 10)
		d.Up()
		for k := range 3 {
			writes(t, d, k, of(byte(200+k)))
		}
	}
}

func TestWriteWhileDown(t *testing.T) { // 17.1: ErrDown, whatever is written, with a Tear waiting and with none
	for _, waits := range []bool{false, true} {
		for _, n := range []int{0, 3, 64} {
			d := filled(t, 3)
			d.Tear(n)
			tears(t, d, 1, of(100), n)
			if waits {
				d.Tear(64 - n)
			}
			for at := range 3 {
				refuses(t, d, at, of(50), api.ErrDown)
			}
			for _, at := range noSector(3) {
				refuses(t, d, at, of(50), api.ErrDown)
			}
			for _, b := range noBytes() {
				refuses(t, d, 0, b, api.ErrDown)
				refuses(t, d, -1, b, api.ErrDown)
			}
		}
	}
}

func TestTearWhileDown(t *testing.T) { // 17.1: it changes nothing, and Up lets none wait
	for _, n := range []int{math.MinInt, -1, 0, 1, 63, 64, 65, math.MaxInt} {
		d := filled(t, 2)
		d.Tear(3)
		tears(t, d, 0, of(100), 3)
		was := whole(t, d)
		d.Tear(n)
		holds(t, d, was)
		isDown(t, d, true)
		refuses(t, d, 1, of(101), api.ErrDown)
		d.Up()
		holds(t, d, was)
		writes(t, d, 1, of(102))
		writes(t, d, 0, of(103))
	}
}

func TestUp(t *testing.T) { // 17.1: it is up; what is there and what was counted stays
	for n := 0; n <= long; n++ {
		d := filled(t, 2)
		d.Tear(n)
		tears(t, d, 1, of(101), n)
		was := whole(t, d)
		d.Up()
		isDown(t, d, false)
		holds(t, d, was)
		counts(t, d, 3)
		d.Up()
		isDown(t, d, false)
		writes(t, d, 1, of(102))
		counts(t, d, 4)
	}
}

func TestUpWhileATearWaits(t *testing.T) { // 17.1: none waits then, not the one ahead of it either; a later one does
	for _, n := range []int{-1, 0, 1, 63, 64, 65} {
		d := filled(t, 2)
		d.Tear(5)
		d.Tear(n)
		d.Up()
		isDown(t, d, false)
		writes(t, d, 0, of(100))
		writes(t, d, 1, of(101))
		d.Up()
		d.Tear(n)
		tears(t, d, 0, of(102), min(max(n, 0), long))
	}
}

func TestUpOfOneThatIsUp(t *testing.T) { // 17.1: nothing changes
	d := made(t, 2)
	d.Up()
	isDown(t, d, false)
	writes(t, d, 0, of(1))
	was := whole(t, d)
	d.Up()
	d.Up()
	isDown(t, d, false)
	holds(t, d, was)
	counts(t, d, 1)
}

func TestWrites(t *testing.T) { // 17.1: whole ones and torn ones count, of none and of all bytes too; errors and Spoils don't, nor does what is no Write
	d := made(t, 2)
	want := 0
	for _, n := range []int{math.MinInt, -1, 0, 1, 32, 63, 64, 65, math.MaxInt} {
		d.Write(0, of(1))
		want++
		counts(t, d, want)
		d.Write(2, of(1))
		d.Write(-1, of(1))
		d.Write(0, of(1)[:63])
		d.Write(0, nil)
		d.Spoil(0, 5, 9)
		d.Spoil(0, 64, 9)
		d.Read(0)
		counts(t, d, want)
		d.Tear(n)
		d.Write(5, of(2))
		counts(t, d, want)
		d.Write(0, of(2))
		want++
		counts(t, d, want)
		d.Write(0, of(3))
		d.Write(1, of(3))
		d.Tear(3)
		d.Write(0, of(3))
		d.Spoil(1, 5, 9)
		counts(t, d, want)
		d.Up()
		counts(t, d, want)
	}
}

func TestSpoilOfEachPlaceAndTurn(t *testing.T) { // 17.2: of the first and the last sector and place too; nothing else changes
	d := filled(t, 3)
	for at := range 3 {
		for place := range long {
			b := read(t, d, at)
			for turn := range 256 {
				if code := d.Spoil(at, place, byte(turn)); code != api.OK {
					t.Fatalf("Spoil(%d, %d, %d) is %d", at, place, turn, code)
				}
				b[place] ^= byte(turn)
				has(t, d, at, b)
			}
			spoils(t, d, at, place, 129)
		}
	}
	counts(t, d, 3)
}

func TestSpoilTwice(t *testing.T) { // 17.2: the same turn twice: it is as it was; 0: it stays; two others: as both at once
	d := filled(t, 2)
	was := whole(t, d)
	for turn := range 256 {
		spoils(t, d, 1, 9, byte(turn))
		spoils(t, d, 1, 9, byte(turn))
		spoils(t, d, 0, 63, 0)
		holds(t, d, was)
		spoils(t, d, 1, 0, byte(turn))
		spoils(t, d, 1, 0, 0x5a)
		if got := read(t, d, 1)[0]; got != 37^byte(turn)^0x5a {
			t.Fatalf("it is %x", got)
		}
		spoils(t, d, 1, 0, byte(turn)^0x5a)
		holds(t, d, was)
	}
}

func TestSpoilOfNoPlace(t *testing.T) { // 17.2: one beyond on either side, and any other; nothing changes
	for _, n := range []int{1, 2, 5} {
		d := filled(t, n)
		was := whole(t, d)
		places := append(wild(), 64, 65, 127, 128, 256, 257, n*64, n*64-64, 1<<32+5)
		for _, at := range append(noSector(n), 0, n-1) {
			for _, place := range append(slices.Clone(places), 0, 63) {
				if at >= 0 && at < n && place >= 0 && place < long {
					continue
				}
				if code := d.Spoil(at, place, 255); code != api.ErrArg {
					t.Errorf("Spoil(%d, %d) of %d is %d", at, place, n, code)
				}
			}
		}
		holds(t, d, was)
		counts(t, d, n)
		isDown(t, d, false)
	}
}

func TestSpoilWhileDown(t *testing.T) { // 17.2: as ever; it stays down, and is spoilt behind Up
	d := filled(t, 3)
	d.Tear(32)
	tears(t, d, 1, of(100), 32)
	spoils(t, d, 1, 31, 255)
	spoils(t, d, 1, 32, 255)
	spoils(t, d, 0, 0, 1)
	spoils(t, d, 2, 63, 128)
	if d.Spoil(3, 0, 1) != api.ErrArg || d.Spoil(0, 64, 1) != api.ErrArg {
		t.Error("Spoil of no place while it is down")
	}
	was := whole(t, d)
	d.Up()
	holds(t, d, was)
	if b := read(t, d, 1); b[31] != 255-131 || b[32] != 255-69 {
		t.Errorf("it is %x", b)
	}
}

func TestWriteOverWhatWasSpoilt(t *testing.T) { // 17.2: all that was spoilt goes; of a torn one as much as stays
	d := filled(t, 1)
	for place := range long {
		spoils(t, d, 0, place, 255)
	}
	has(t, d, 0, not(of(0)))
	d.Tear(20)
	tears(t, d, 0, of(0), 20)
	d.Up()
	has(t, d, 0, append(of(0)[:20], not(of(0))[20:]...))
	writes(t, d, 0, of(0))
}

func TestWhatWasCutOffIsABeginning(t *testing.T) { // 17.3: of any bytes over any: what is there is the new one up to a place, and the old one from there on
	dice := rand.New(rand.NewPCG(17, 2))
	for range 3000 {
		n := 1 + dice.IntN(4)
		d := made(t, n)
		for at := range n {
			writes(t, d, at, thrown(dice))
		}
		was := whole(t, d)
		at, b, stay := dice.IntN(n), thrown(dice), dice.IntN(80)-8
		d.Tear(stay)
		d.Write(at, b)
		got := whole(t, d)
		for k := range n {
			for place := range long {
				want := was[k][place]
				if k == at && place < stay {
					want = b[place]
				}
				if got[k][place] != want {
					t.Fatalf("byte %d of sector %d is %x, not %x, behind a Tear(%d) of a Write to %d", place, k, got[k][place], want, stay, at)
				}
			}
		}
	}
}

func TestAtWhicheverWriteItCrashes(t *testing.T) { // T4: all ahead of it is there, of it a beginning, and nothing of what comes behind
	const rounds = 12
	for crash := range rounds {
		for stay := 0; stay <= long; stay++ {
			d := made(t, 5)
			want := whole(t, d)
			for k := range rounds {
				at, b := k*3%5, of(byte(k*51+1))
				if k == crash {
					d.Tear(stay)
				}
				code := d.Write(at, b)
				switch {
				case k < crash && code == api.OK:
					want[at] = b
				case k == crash && code == api.ErrDown:
					want[at] = slices.Concat(b[:stay], want[at][stay:])
				case k <= crash || code != api.ErrDown:
					t.Fatalf("Write %d is %d, of a crash at %d", k, code, crash)
				}
			}
			holds(t, d, want)
			counts(t, d, crash+1)
			d.Up()
			holds(t, d, want)
		}
	}
}

// thrown is a sector's bytes, thrown.
func thrown(dice *rand.Rand) []byte {
	b := make([]byte, long)
	for i := range b {
		b[i] = byte(dice.Uint32())
	}
	return b
}

// act is something that was done to a disk: with what it was handed, and of a Write as much of it as stayed.
type act struct {
	kind      string
	at, place int
	turn      byte
	b         []byte
}

// told is a second telling of a Disk: it keeps all that was ever done, and asks it from the last one on.
type told struct {
	n    int
	done []act
}

// last is the last act of one of the kinds; an empty one, if there was none.
func (o *told) last(kinds ...string) act {
	for _, a := range slices.Backward(o.done) {
		if slices.Contains(kinds, a.kind) {
			return a
		}
	}
	return act{}
}

// down is whether the last one of what changes that made it so.
func (o *told) down() bool { return o.last("torn", "up").kind == "torn" }

// stays is how many bytes would stay of a Write, and whether a Tear waits that lets them.
func (o *told) stays() (int, bool) {
	a := o.last("torn", "up", "tear")
	return a.place, a.kind == "tear"
}

// writes is how many Writes there were.
func (o *told) writes() int {
	n := 0
	for _, a := range o.done {
		if a.kind == "torn" || a.kind == "whole" {
			n++
		}
	}
	return n
}

// at is the byte at a place: that of the last Write that got there, with all that was laid over it since.
func (o *told) at(at, place int) byte {
	var turned byte
	for _, a := range slices.Backward(o.done) {
		switch {
		case a.at != at:
		case a.kind == "spoilt" && a.place == place:
			turned ^= a.turn
		case (a.kind == "torn" || a.kind == "whole") && place < len(a.b):
			return a.b[place] ^ turned
		}
	}
	return turned
}

// keep keeps an act.
func (o *told) keep(a act) { o.done = append(o.done, a) }

// write is what a Write tells.
func (o *told) write(at int, b []byte) int {
	if o.down() {
		return api.ErrDown
	}
	if at < 0 || at >= o.n || len(b) != long {
		return api.ErrArg
	}
	if n, waits := o.stays(); waits {
		o.keep(act{kind: "torn", at: at, b: slices.Clone(b[:n])})
		return api.ErrDown
	}
	o.keep(act{kind: "whole", at: at, b: slices.Clone(b)})
	return api.OK
}

// spoil is what a Spoil tells.
func (o *told) spoil(at, place int, turn byte) int {
	if at < 0 || at >= o.n || place < 0 || place >= long {
		return api.ErrArg
	}
	o.keep(act{kind: "spoilt", at: at, place: place, turn: turn})
	return api.OK
}

// does does the act to a Disk and to its second telling, and asks that both tell the same.
func (o *told) does(t *testing.T, d *Disk, a act) {
	t.Helper()
	got, want := 0, 0
	switch a.kind {
	case "write":
		got, want = d.Write(a.at, a.b), o.write(a.at, a.b)
	case "spoil":
		got, want = d.Spoil(a.at, a.place, a.turn), o.spoil(a.at, a.place, a.turn)
	case "tear":
		d.Tear(a.place)
		o.keep(act{kind: "tear", at: -1, place: min(max(a.place, 0), long)})
	case "up":
		d.Up()
		o.keep(act{kind: "up", at: -1})
	}
	if got != want {
		t.Fatalf("%+v is %d, not %d, behind %+v", a, got, want, o.done)
	}
}

// agrees holds all that a Disk tells against its second telling.
func (o *told) agrees(t *testing.T, d *Disk) {
	t.Helper()
	if d.Len() != o.n || d.Down() != o.down() || d.Writes() != o.writes() {
		t.Fatalf("it has %d, is down %t, and was written %d times, behind %+v", d.Len(), d.Down(), d.Writes(), o.done)
	}
	for at := range o.n {
		for place, x := range read(t, d, at) {
			if x != o.at(at, place) {
				t.Fatalf("byte %d of sector %d is %x, not %x, behind %+v", place, at, x, o.at(at, place), o.done)
			}
		}
	}
}

func TestTheSecondTellingOfAllSmallOnes(t *testing.T) { // 17.1, 17.2: all rows of up to four things that are done to a disk of two sectors
	acts := []act{
		{kind: "write", at: 0, b: of(1)}, {kind: "write", at: 1, b: of(100)}, {kind: "write", at: 0, b: of(200)},
		{kind: "write", at: 2, b: of(1)}, {kind: "write", at: 0, b: of(1)[:63]},
		{kind: "tear", place: 0}, {kind: "tear", place: 1}, {kind: "tear", place: 63}, {kind: "tear", place: 64},
		{kind: "up"}, {kind: "spoil", at: 0, place: 0, turn: 3}, {kind: "spoil", at: 1, place: 63, turn: 255}, {kind: "spoil", at: 0, place: 64, turn: 1},
	}
	var row []act
	var rest func()
	rest = func() {
		d, o := made(t, 2), &told{n: 2}
		for _, a := range row {
			o.does(t, d, a)
		}
		o.agrees(t, d)
		if len(row) == 4 {
			return
		}
		for _, a := range acts {
			row = append(row, a)
			rest()
			row = row[:len(row)-1]
		}
	}
	rest()
}

func TestTheSecondTellingAnywhere(t *testing.T) { // 17.1, 17.2: things of all sorts, in any order
	dice := rand.New(rand.NewPCG(17, 3))
	for range 150 {
		n := []int{1, 2, 3, 9}[dice.IntN(4)]
		d, o := made(t, n), &told{n: n}
		for k := range 120 {
			a := act{at: dice.IntN(n)}
			if dice.IntN(8) == 0 {
				a.at = noSector(n)[dice.IntN(len(noSector(n)))]
			}
			switch dice.IntN(8) {
			case 0:
				a.kind, a.place = "tear", dice.IntN(70)-3
			case 1:
				a.kind = "up"
			case 2:
				a.kind, a.place, a.turn = "spoil", dice.IntN(68)-2, byte(dice.Uint32())
			case 3:
				a.kind, a.b = "write", noBytes()[dice.IntN(len(noBytes()))]
			default:
				a.kind, a.b = "write", thrown(dice)
			}
			o.does(t, d, a)
			if k%7 == 0 {
				o.agrees(t, d)
			}
		}
		o.agrees(t, d)
	}
}

func TestOfNil(t *testing.T) { // 17.2: ErrArg, false, 0, with any arguments; Tear and Up do nothing
	var d *Disk
	for _, at := range append(wild(), 0, 1, 63, 64, most) {
		for _, b := range append(noBytes(), of(1)) {
			if code := d.Write(at, b); code != api.ErrArg {
				t.Errorf("Write(%d) of nil is %d", at, code)
			}
		}
		if b, code := d.Read(at); b != nil || code != api.ErrArg {
			t.Errorf("Read(%d) of nil is %x, %d", at, b, code)
		}
		for _, place := range append(wild(), 0, 63, 64) {
			if code := d.Spoil(at, place, 1); code != api.ErrArg {
				t.Errorf("Spoil(%d, %d) of nil is %d", at, place, code)
			}
		}
		d.Tear(at)
		if d.Down() || d.Writes() != 0 || d.Len() != 0 {
			t.Errorf("of nil it is %t, %d, %d", d.Down(), d.Writes(), d.Len())
		}
		d.Up()
	}
}

func TestOfOneThatNewDidNotMake(t *testing.T) { // rule 1: it has no sectors, so nothing is ever written
	d := &Disk{}
	for _, at := range append(wild(), 0, 1, most) {
		d.Tear(3)
		if code := d.Write(at, of(1)); code != api.ErrArg {
			t.Errorf("Write(%d) is %d", at, code)
		}
		if b, code := d.Read(at); b != nil || code != api.ErrArg {
			t.Errorf("Read(%d) is %x, %d", at, b, code)
		}
		if code := d.Spoil(at, 0, 1); code != api.ErrArg {
			t.Errorf("Spoil(%d) is %d", at, code)
		}
		if d.Down() || d.Writes() != 0 || d.Len() != 0 {
			t.Errorf("it is %t, %d, %d", d.Down(), d.Writes(), d.Len())
		}
		d.Up()
	}
}

// roomy is b with bytes behind it that are not handed in.
func roomy(b []byte) []byte { return append(slices.Clone(b), of(77)...)[:len(b)] }

// room is all of b, and of what stands behind it.
func room(b []byte) []byte { return slices.Clone(b[:cap(b)]) }

func TestWhatIsHandedInStays(t *testing.T) { // rule 2: with what stands behind it, whether it is written, torn or refused, and whatever comes behind it
	for _, b := range append(noBytes(), of(9)) {
		for _, at := range []int{0, 1, 2, -1} {
			d := filled(t, 2)
			in := roomy(b)
			was := room(in)
			ask := func() {
				t.Helper()
				if !bytes.Equal(room(in), was) {
					t.Fatalf("%d bytes that were handed in for sector %d changed", len(b), at)
				}
			}
			d.Write(at, in)
			ask()
			d.Spoil(0, 3, 255)
			d.Spoil(1, 3, 255)
			ask()
			d.Tear(30)
			d.Write(at, in)
			ask()
			d.Write(at, in)
			d.Up()
			d.Write(0, of(50))
			d.Write(1, of(51))
			ask()
		}
	}
}

func TestWhatWasHandedInMayBeChanged(t *testing.T) { // rule 2: the disk doesn't change by it
	d := made(t, 2)
	in := of(9)
	writes(t, d, 0, in)
	writes(t, d, 1, in)
	clear(in)
	has(t, d, 0, of(9))
	has(t, d, 1, of(9))
	in = of(100)
	d.Tear(8)
	tears(t, d, 1, in, 8)
	clear(in)
	has(t, d, 1, append(of(100)[:8], of(9)[8:]...))
}

func TestWhatWasReadMayBeChanged(t *testing.T) { // rule 2: neither the disk nor what else was read changes by it, while it is down either
	d := filled(t, 3)
	for range 2 {
		was := whole(t, d)
		for at := range 3 {
			a, b := read(t, d, at), read(t, d, at)
			clear(a[:cap(a)])
			_ = append(a[:10], of(99)...)
			_ = append(a, of(99)...)
			if !bytes.Equal(b, was[at]) {
				t.Errorf("what was read of sector %d changed with what else was read", at)
			}
			holds(t, d, was)
		}
		d.Tear(5)
		d.Write(1, of(100))
	}
}

func TestWhatWasReadStays(t *testing.T) { // rule 2: whatever is written and spoilt behind it
	d := filled(t, 2)
	a, b := read(t, d, 0), read(t, d, 1)
	writes(t, d, 0, of(100))
	spoils(t, d, 0, 7, 255)
	spoils(t, d, 1, 7, 255)
	d.Tear(9)
	tears(t, d, 1, of(101), 9)
	if !bytes.Equal(a, of(0)) || !bytes.Equal(b, of(37)) {
		t.Errorf("what was read became %x, %x", a, b)
	}
}

func TestWriteOfWhatWasRead(t *testing.T) { // rule 2: of the same sector and of another one
	d := filled(t, 3)
	b := read(t, d, 2)
	writes(t, d, 0, b)
	writes(t, d, 2, b)
	spoils(t, d, 0, 5, 255)
	has(t, d, 2, of(74))
	if !bytes.Equal(b, of(74)) {
		t.Errorf("what was read became %x", b)
	}
}

func TestTwoDisks(t *testing.T) { // rule 3: each has its own
	a, b := made(t, 2), made(t, 2)
	writes(t, a, 0, of(1))
	has(t, b, 0, make([]byte, long))
	a.Tear(3)
	writes(t, b, 0, of(2))
	tears(t, a, 1, of(3), 3)
	writes(t, b, 1, of(4))
	b.Up()
	isDown(t, a, true)
	spoils(t, b, 0, 0, 255)
	has(t, a, 0, of(1))
	counts(t, a, 2)
	counts(t, b, 2)
}

func TestTheSameEachTime(t *testing.T) { // rule 3: the same calls give the same answers, whatever others do with their Disks
	run := func() []byte {
		dice := rand.New(rand.NewPCG(17, 4))
		d := New(7)
		var told []byte
		for range 400 {
			switch dice.IntN(5) {
			case 0:
				d.Tear(dice.IntN(70))
			case 1:
				d.Up()
			case 2:
				told = append(told, byte(d.Spoil(dice.IntN(8), dice.IntN(70), byte(dice.Uint32()))))
			default:
				told = append(told, byte(d.Write(dice.IntN(8), thrown(dice))))
			}
			b, code := d.Read(dice.IntN(8))
			told = append(told, b...)
			told = append(told, byte(code), byte(d.Writes()))
		}
		return told
	}
	want := run()
	var all sync.WaitGroup
	for range 16 {
		all.Go(func() {
			if !bytes.Equal(run(), want) {
				t.Error("the same calls gave other answers")
			}
		})
	}
	all.Wait()
}

func TestAskedByManyAtOnce(t *testing.T) { // rule 3: what only tells may be asked at one time
	d := filled(t, 64)
	var all sync.WaitGroup
	for range 16 {
		all.Go(func() {
			for at := range 64 {
				b, code := d.Read(at)
				if code != api.OK || !bytes.Equal(b, of(byte(37*at))) || d.Len() != 64 || d.Writes() != 64 || d.Down() {
					t.Errorf("sector %d is %x, %d", at, b, code)
				}
			}
		})
	}
	all.Wait()
}
