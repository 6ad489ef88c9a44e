package store

import (
	"bytes"
	"encoding/hex"
	"math"
	"slices"
	"strings"
	"testing"

	"quorumite/api"
	"quorumite/conf"
	"quorumite/log"
	"quorumite/sector"
	"quorumite/state"
)

// counted are n bytes, each unlike the next.
func counted(n int) []byte {
	b := make([]byte, n)
	for i := range b {
		b[i] = byte(i*7 + i/256 + 1)
	}
	return b
}

// cell is a Cell.
func cell(pass uint32, place, kind int, data []byte) log.Cell {
	return log.Cell{Pass: pass, Place: place, Kind: kind, Data: data}
}

// sameCells is whether both are the same, nil and empty ones too.
func sameCells(a, b []log.Cell) bool {
	return slices.EqualFunc(a, b, func(x, y log.Cell) bool {
		return x.Pass == y.Pass && x.Place == y.Place && x.Kind == y.Kind && bytes.Equal(x.Data, y.Data)
	})
}

func TestCellsByHand(t *testing.T) { // 20.1: of no bytes, of a few, of 47, 48, 49, of 95, 96, 97, of many
	b := counted(200)
	for _, x := range []struct {
		n    int
		want []log.Cell
	}{
		{0, []log.Cell{cell(7, 0, 2, nil)}},
		{1, []log.Cell{cell(7, 0, 2, b[:1])}},
		{47, []log.Cell{cell(7, 0, 2, b[:47])}},
		{48, []log.Cell{cell(7, 0, 2, b[:48])}},
		{49, []log.Cell{cell(7, 0, 1, b[:48]), cell(7, 1, 2, b[48:49])}},
		{95, []log.Cell{cell(7, 0, 1, b[:48]), cell(7, 1, 2, b[48:95])}},
		{96, []log.Cell{cell(7, 0, 1, b[:48]), cell(7, 1, 2, b[48:96])}},
		{97, []log.Cell{cell(7, 0, 1, b[:48]), cell(7, 1, 1, b[48:96]), cell(7, 2, 2, b[96:97])}},
		{144, []log.Cell{cell(7, 0, 1, b[:48]), cell(7, 1, 1, b[48:96]), cell(7, 2, 2, b[96:144])}},
		{200, []log.Cell{cell(7, 0, 1, b[:48]), cell(7, 1, 1, b[48:96]), cell(7, 2, 1, b[96:144]), cell(7, 3, 1, b[144:192]), cell(7, 4, 2, b[192:])}},
	} {
		if got := Cells(conf.Default(), b[:x.n], 7); !sameCells(got, x.want) {
			t.Errorf("of %d bytes: %v", x.n, got)
		}
	}
	if !sameCells(Cells(conf.Default(), nil, 1), Cells(conf.Default(), []byte{}, 1)) {
		t.Error("nil is not as empty")
	}
}

func TestCellsOfEachLength(t *testing.T) { // 20.1: put together they are the bytes; all but the last one are full, and only that one is the last
	for _, n := range append(slices.Collect(func(yield func(int) bool) {
		for i := range 1000 {
			if !yield(i) {
				return
			}
		}
	}), 48*4095, 48*4096, 48*4097, 48*70000, 48*70000+1) {
		b, got := counted(n), Cells(small(), counted(n), 250)
		if len(got) != max(1, (n+47)/48) {
			t.Fatalf("%d cells of %d bytes", len(got), n)
		}
		var all []byte
		for i, c := range got {
			kind := 1
			if i == len(got)-1 {
				kind = 2
			} else if len(c.Data) != 48 {
				t.Fatalf("of %d bytes the cell %d has %d", n, i, len(c.Data))
			}
			if c.Pass != 250 || c.Place != i || c.Kind != kind || len(c.Data) > 48 {
				t.Fatalf("of %d bytes the cell %d is %v", n, i, c)
			}
			all = append(all, c.Data...)
		}
		if !bytes.Equal(all, b) {
			t.Fatalf("of %d bytes others are there", n)
		}
	}
}

func TestCellsOfAnyPassAndConfiguration(t *testing.T) { // 20.1: the words ask nothing of them
	for _, pass := range []uint32{0, 1, 2, 249, 250, 251, 256, 1 << 31, math.MaxUint32} {
		for _, c := range []api.Conf{{}, small(), conf.Default(), with(func(c *api.Conf) { c.Sectors = -1 })} {
			got := Cells(c, counted(50), pass)
			if !sameCells(got, []log.Cell{cell(pass, 0, 1, counted(48)), cell(pass, 1, 2, counted(50)[48:])}) {
				t.Errorf("of pass %d: %v", pass, got)
			}
		}
	}
}

func TestCellsAreTheCallers(t *testing.T) { // rule 2: what is handed in stays and may be changed, and no two lists share anything
	whole := counted(200)
	b := whole[:100]
	got := Cells(small(), b, 3)
	if !bytes.Equal(whole, counted(200)) {
		t.Fatal("what was handed in has changed")
	}
	for i := range b {
		b[i] = 0
	}
	want := Cells(small(), counted(100), 3)
	if !sameCells(got, want) {
		t.Fatal("what was told has changed with what was handed in")
	}
	for i := range got {
		for k := range got {
			grown := append(got[i].Data, bytes.Repeat([]byte{9}, 60)...)
			if i != k && !bytes.Equal(got[k].Data, want[k].Data) || !bytes.Equal(grown[:len(want[i].Data)], want[i].Data) {
				t.Fatal("two lists share something")
			}
		}
	}
	for i := range got[0].Data {
		got[0].Data[i] = 77
	}
	if !sameCells(got[1:], want[1:]) || !sameCells(Cells(small(), counted(100), 3), want) {
		t.Fatal("a change goes over to others")
	}
}

// hexes is a sector of which these hexadecimal digits stand at the beginning, and those at the end.
func hexes(t *testing.T, front, back string) []byte {
	t.Helper()
	front, back = strings.ReplaceAll(front, " ", ""), strings.ReplaceAll(back, " ", "")
	b, err := hex.DecodeString(front + strings.Repeat("0", 128-len(front)-len(back)) + back)
	if err != nil {
		t.Fatal(err)
	}
	return b
}

func TestExample(t *testing.T) { // the chapter's
	if s := opens(t, conf.Default(), sector.New(256)); s.Pass() != 1 {
		t.Fatal(s.Pass())
	}
}

func TestEachByteByHand(t *testing.T) { // 20.1, 20.2, 20.3: a State of 16 numbers in three cells, in the second half; behind it records
	c, d := tiny(), sector.New(64)
	s := opens(t, c, d)
	want := blank(64)
	want[32] = hexes(t, "01000000 0000 01 30", "C4070000 00000001")
	want[33] = hexes(t, "01000000 0100 01 30"+strings.Repeat("00", 40)+"01", "FA070000 00000001")
	want[34] = hexes(t, "01000000 0200 02 20 0100000000000000 01", "6F070000 00000001")
	if !imageOf(d).equals(want) || d.Writes() != 3 || s.Pass() != 1 || s.Free() != 29 {
		t.Fatal(s.Pass(), s.Free(), d.Writes())
	}
	if got, code := s.Do(closes()); code != api.OK || got != (api.Decision{Replicas: 1, Hold: true}) {
		t.Fatal(got, code)
	}
	want[35] = hexes(t, "01000000 0300 03 01 03", "84060000 00000001")
	if !imageOf(d).equals(want) || s.Free() != 28 {
		t.Fatal("RClose")
	}
	for i, x := range []struct {
		r    api.Record
		data string
	}{
		{api.Record{Kind: api.RAccept, Msg: api.Msg{Kind: api.KSample, Seq: 0x0102, Epoch: 2, Value: 0x0304}}, "01 01010000 00000000 0201000000000000 0200000000000000 0403000000000000"},
		{api.Record{Kind: api.RAccept, Msg: api.Msg{Kind: api.KBeat, Seq: 0x0103, Epoch: 5}}, "01 01030000 00000000 0301000000000000 0500000000000000 0000000000000000"},
		{api.Record{Kind: api.RRotate, Msg: api.Msg{Kind: api.KRotate, Gen: 1, Seq: 0x0104, Epoch: 1}}, "02 01020000 01000000 0401000000000000 0100000000000000 0000000000000000"},
	} {
		if got, code := s.Do(x.r); code != api.OK || got != (api.Decision{}) {
			t.Fatal(i, got, code)
		}
		data := hexes(t, x.data, "")[:33]
		want[36+i] = laid(1, 4+i, 3, data)
		if !imageOf(d).equals(want) || s.Free() != 27-i || d.Writes() != 5+i {
			t.Fatal(i, s.Free(), d.Writes())
		}
	}
}

func TestOpenOfWhatMayNotBe(t *testing.T) { // 20.2: a configuration, no disk, a disk of another number of sectors; ErrArg ahead of all else
	for i, c := range []api.Conf{
		{},
		with(func(c *api.Conf) { c.N = 0 }),
		with(func(c *api.Conf) { c.Quorum = 1 }),
		with(func(c *api.Conf) { c.Sectors = 63 }),
		with(func(c *api.Conf) { c.Sectors = 4097 }),
		with(func(c *api.Conf) { c.Sectors = -64 }),
		with(func(c *api.Conf) { c.Sectors = math.MaxInt }),
	} {
		for _, d := range []*sector.Disk{nil, sector.New(1), sector.New(63), sector.New(64), sector.New(256), sector.New(4096)} {
			if s, code := Open(c, d); s != nil || code != api.ErrArg || d.Writes() != 0 {
				t.Error(i, d.Len(), code)
			}
		}
	}
	for _, n := range []int{64, 65, 255, 256, 4095, 4096} {
		c := with(func(c *api.Conf) { c.Sectors = n })
		for _, other := range []int{1, 32, 63, 64, 65, 66, 128, 254, 255, 256, 257, 4094, 4095, 4096} {
			d := sector.New(other)
			s, code := Open(c, d)
			if (code == api.OK) != (other == n) || (s == nil) != (other != n) || code != api.OK && (code != api.ErrArg || d.Writes() != 0) {
				t.Error(n, other, code)
			}
		}
		if s, code := Open(c, nil); s != nil || code != api.ErrArg {
			t.Error(n, code)
		}
	}
	down := sector.New(65)
	down.Tear(0)
	down.Write(0, make([]byte, 64))
	if _, code := Open(small(), down); code != api.ErrArg {
		t.Error("of a disk that is down:", code)
	}
	bad := blank(65).laidOver(stroke{0, laid(2, 5, 3, nil)})
	refuses(t, with(func(c *api.Conf) { c.Sectors = 65 }), bad, api.ErrSum)
	refuses(t, small(), bad, api.ErrArg)
	refuses(t, with(func(c *api.Conf) { c.Sectors, c.N = 65, 17 }), bad, api.ErrArg)
}

func TestOpenOfANewDisk(t *testing.T) { // 20.2: state.New as pass 1, in the second half, of each number of sectors
	for _, n := range []int{64, 65, 66, 67, 100, 255, 256, 257, 4095, 4096} {
		for _, c := range []api.Conf{tiny(), small(), with(func(c *api.Conf) { c.N = 16 })} {
			c.Sectors = n
			s, d, o := two(t, c)
			if !s.State().Same(state.New(c)) || s.Pass() != 1 || s.Free() != n/2-len(o.strokes) || len(o.strokes) != (len(state.New(c).Bytes())+47)/48 {
				t.Fatal(n, s.Pass(), s.Free())
			}
			agrees(t, c, imageOf(d))
		}
	}
}

func TestAnOddSectorIsInNeitherHalf(t *testing.T) { // 20.2: the last one of an odd number is never written, and of no account
	c := with(func(c *api.Conf) { c.Sectors = 65 })
	s, d, o := two(t, c)
	for range 40 {
		o.goes(t, s, d, o.beat(1))
	}
	if s.Pass() != 2 {
		t.Fatal(s.Pass())
	}
	for _, b := range [][]byte{laid(2, 32, 3, []byte{3}), laid(1, 32, 3, []byte{3}), laid(250, 0, 1, nil), laid(2, 0, 1, nil), counted(64)} {
		finds(t, c, o.disk.laidOver(stroke{64, b}), verdict{b: o.live.Bytes(), pass: 2, free: o.free()})
	}
}

func TestOpenOfAPassInOneHalf(t *testing.T) { // 20.2: in either one, whatever number of that half it has
	s := state.New(small())
	s.Do(closes())
	for _, pass := range []uint32{1, 2, 3, 4, 127, 128, 249, 250} {
		m := blank(64).holding(pass, s)
		finds(t, small(), m, verdict{b: s.Bytes(), pass: pass, free: 32 - len(Cells(small(), s.Bytes(), pass))})
		agrees(t, small(), m)
	}
}

func TestOpenOfAPassInBothHalves(t *testing.T) { // 20.2: the greater one counts, and the records of the other one are of no account
	a, b := state.New(small()), state.New(small())
	b.Do(closes())
	cells := len(Cells(small(), b.Bytes(), 1))
	for _, x := range [][2]uint32{{1, 2}, {2, 3}, {1, 250}, {249, 250}, {4, 99}, {7, 8}, {100, 249}} {
		m := blank(64).holding(x[0], a).holding(x[1], b)
		finds(t, small(), m, verdict{b: b.Bytes(), pass: x[1], free: 32 - cells})
		m = blank(64).holding(x[1], b).holding(x[0], a, closes(), closes())
		finds(t, small(), m, verdict{b: b.Bytes(), pass: x[1], free: 32 - cells})
		first := startOf(64, x[0])
		for _, wrong := range []stroke{
			{first + 8, laid(x[0], 8, 3, []byte{9})},
			{first + 8, laid(x[0], 9, 3, []byte{3})},
			{first + 8, laid(x[0], 8, 1, []byte{3})},
			{first + 8, summed(laid(x[0], 8, 3, []byte{3, 0}), 77)},
			{first + 20, laid(x[0], 20, 3, []byte{3})},
		} {
			finds(t, small(), m.laidOver(wrong), verdict{b: b.Bytes(), pass: x[1], free: 32 - cells})
		}
	}
}

func TestTheLesserPassIsReadToo(t *testing.T) { // 20.2: each half is read, so its cells tell ErrSum; but what they make together is not asked of it
	a := state.New(small())
	m := blank(64).holding(1, a).holding(2, a)
	for place := range 8 {
		at := 32 + place
		x := see(m[at])
		refuses(t, small(), m.laidOver(stroke{at, laid(1, place, 3, x.data)}), api.ErrSum)
		refuses(t, small(), m.laidOver(stroke{at, laid(1, place+1, x.kind, x.data)}), api.ErrSum)
		spoilt := m.laidOver()
		spoilt[at][9] ^= 1
		refuses(t, small(), spoilt, api.ErrSum)
	}
	other := m.laidOver(stroke{35, laid(1, 3, 1, counted(48))})
	finds(t, small(), other, verdict{b: a.Bytes(), pass: 2, free: 24})
}

func TestTheFirstSectorTellsWhetherThereIsAPass(t *testing.T) { // 20.2: not whole, or of a Pass of the other half: none, whatever stands behind it
	s := state.New(small())
	s.Do(closes())
	fresh := verdict{b: state.New(small()).Bytes(), pass: 1, free: 24, fresh: true}
	for _, pass := range []uint32{2, 4, 250} {
		m := blank(64).holding(pass, s, closes())
		for n := range 64 {
			torn := m.copied()
			torn[0] = append(slices.Clone(laid(pass+2, 0, 1, counted(48))[:n]), m[0][n:]...)
			if n > 0 {
				torn[0][63] = 0
				finds(t, small(), torn, fresh)
			}
		}
		for _, first := range [][]byte{make([]byte, 64), laid(3, 0, 1, nil), laid(1, 0, 3, nil), laid(249, 0, 2, counted(48)), summed(laid(3, 0, 1, nil), 4), laid(1, 5, 1, nil)} {
			finds(t, small(), m.laidOver(stroke{0, first}), fresh)
		}
		wrongSum := laid(3, 0, 1, nil)
		wrongSum[20] = 1
		finds(t, small(), m.laidOver(stroke{0, wrongSum}), fresh)
	}
	m := blank(64).holding(3, s, closes())
	for _, first := range [][]byte{make([]byte, 64), laid(2, 0, 1, nil), laid(250, 0, 2, nil)} {
		finds(t, small(), m.laidOver(stroke{32, first}), fresh)
	}
	both := blank(64).holding(2, s).holding(3, s, closes())
	finds(t, small(), both.laidOver(stroke{32, laid(4, 0, 1, nil)}), verdict{b: s.Bytes(), pass: 2, free: 32 - len(Cells(small(), s.Bytes(), 2))})
}

func TestCellsThatEndAheadOfTheLast(t *testing.T) { // 20.2: one that is not whole, or of another Pass: no pass; ErrSum, if a whole one of it stands behind that
	a, b := state.New(small()), state.New(small())
	b.Do(closes())
	m := blank(64).holding(4, a, closes(), closes()).holding(5, b) // 5 was begun over an older one
	under := verdict{b: nil, pass: 4, free: 22}
	done := state.New(small())
	done.Do(closes())
	done.Do(closes())
	under.b = done.Bytes()
	cells := len(Cells(small(), b.Bytes(), 5))
	for place := 1; place < cells; place++ {
		for _, gap := range [][]byte{make([]byte, 64), laid(3, place, 1, counted(48)), laid(3, place, 3, []byte{3}), laid(250, place, 2, nil), append(laid(5, place, 1, nil)[:63], 3)} {
			cut := m.laidOver(stroke{32 + place, gap})
			for behind := place + 1; behind < 32; behind++ {
				cut[32+behind] = make([]byte, 64)
			}
			finds(t, small(), cut, under)
			for behind := place + 1; behind < 32; behind++ {
				for _, old := range [][]byte{laid(3, behind, 1, counted(48)), laid(3, behind, 2, nil), laid(3, behind, 3, []byte{3}), counted(64)} {
					finds(t, small(), cut.laidOver(stroke{32 + behind, old}), under)
				}
				wrong := laid(5, behind, 1, counted(48))
				wrong[30] ^= 4
				for _, ours := range [][]byte{laid(5, behind, 1, counted(48)), laid(5, behind, 2, nil), laid(5, behind, 3, []byte{3}), laid(5, 0, 3, nil), wrong} {
					refuses(t, small(), cut.laidOver(stroke{32 + behind, ours}), api.ErrSum)
				}
			}
			finds(t, small(), cut.laidOver(stroke{20, laid(5, 20, 3, []byte{3})}), under) // in the other half
		}
	}
}

func TestAHalfWithoutTheLastCell(t *testing.T) { // 20.2: full of cells behind which there should be others: no pass
	m := blank(64)
	for place := range 32 {
		m = m.laidOver(stroke{place, laid(2, place, 1, counted(48))})
	}
	finds(t, small(), m, verdict{b: state.New(small()).Bytes(), pass: 1, free: 24, fresh: true})
	agrees(t, small(), m)
}

func TestWrongCells(t *testing.T) { // 20.2: ErrSum of a whole one with a wrong sum, Place or Kind
	s := state.New(small())
	for _, pass := range []uint32{1, 2} {
		m, first := blank(64).holding(pass, s, closes()), startOf(64, pass)
		for place := range 8 {
			x := see(m[first+place])
			for _, wrong := range [][]byte{
				laid(pass, place+1, x.kind, x.data),
				laid(pass, place+256, x.kind, x.data),
				laid(pass, first+place+1, x.kind, x.data),
				laid(pass, 4096, x.kind, x.data),
				laid(pass, 4097, x.kind, x.data),
				laid(pass, place, 3, x.data),
				laid(pass, place, 0, x.data),
				laid(pass, place, 4, x.data),
				laid(pass, place, 255, x.data),
				laid(pass, place, 1, []byte{3}),
			} {
				refuses(t, small(), m.laidOver(stroke{first + place, wrong}), api.ErrSum)
			}
			for at := 4; at < 60; at++ {
				spoilt := m.copied()
				spoilt[first+place][at] ^= byte(1 << (at % 8))
				refuses(t, small(), spoilt, api.ErrSum)
			}
		}
		refuses(t, small(), m.laidOver(stroke{first + 3, laid(pass, 3, 2, see(m[first+3]).data)}), api.ErrSum)          // the last one too early
		refuses(t, small(), m.laidOver(stroke{first + 7, laid(pass, 7, 1, see(m[first+7]).data)}), api.ErrSum)          // none the last: the record is no cell of the State
		refuses(t, small(), m.laidOver(stroke{first + 8, laid(pass, 8, 2, []byte{3})}), api.ErrSum)                     // a second last one
		refuses(t, small(), m.laidOver(stroke{first + 9, laid(pass, 9, 1, see(m[first+6]).data)}), api.ErrSum)          // one more of the State behind the records
		refuses(t, small(), m.laidOver(stroke{first + 8, laid(pass, 9, 3, []byte{3})}), api.ErrSum)                     // a record of the next place
		refuses(t, small(), m.laidOver(stroke{first + 8, laid(pass, first+8+32, 3, []byte{3})}), api.ErrSum)            // and one of its place on the disk
		finds(t, small(), m.laidOver(stroke{first + 8, make([]byte, 64)}), verdict{b: s.Bytes(), pass: pass, free: 24}) // without it
	}
}

func TestShortPiecesOfAState(t *testing.T) { // 20.2: how many bytes stand in which cell is not asked: those together are the State's
	s := state.New(small())
	b := s.Bytes()
	m := blank(64).laidOver(
		stroke{0, laid(2, 0, 1, b[:10])}, stroke{1, laid(2, 1, 1, nil)}, stroke{2, laid(2, 2, 1, b[10:50])},
	)
	for i := range 7 {
		m = m.laidOver(stroke{3 + i, laid(2, 3+i, 1, b[50+i*42:92+i*42])})
	}
	m = m.laidOver(stroke{10, laid(2, 10, 2, nil)})
	finds(t, small(), m, verdict{b: b, pass: 2, free: 21})
}

func TestBytesThatAreNoStates(t *testing.T) { // 20.2: ErrSum
	s := state.New(small())
	b := s.Bytes()
	turned := func(at int, by byte) []byte {
		l := slices.Clone(b)
		l[at] ^= by
		return l
	}
	five := state.New(with(func(c *api.Conf) { c.N = 5 })).Bytes()
	for i, wrong := range [][]byte{nil, b[:8], b[:len(b)-8], b[:len(b)-1], append(slices.Clone(b), 0), append(slices.Clone(b), make([]byte, 8)...), turned(0, 0)[1:], turned(7, 1), turned(16+8, 1), turned(len(b)-8, 1), turned(len(b)-16, 2), five} {
		l := passOf(64, 2, wrong)
		refuses(t, small(), blank(64).laidOver(l...), api.ErrSum)
		refuses(t, small(), blank(64).holding(1, s).laidOver(l...), api.ErrSum)
		finds(t, small(), blank(64).holding(3, s).laidOver(l...), verdict{b: b, pass: 3, free: 24})
		if v := blank(64).laidOver(l...).opened(small()); v.code != api.ErrSum {
			t.Error(i)
		}
	}
	finds(t, with(func(c *api.Conf) { c.N = 5 }), blank(64).laidOver(passOf(64, 2, five)...), verdict{b: five, pass: 2, free: 32 - len(passOf(64, 2, five))})
}

// message is the bytes of a record with its first byte changed.
func message(kind byte, r api.Record) []byte {
	b := written(r)
	b[0] = kind
	return b
}

func TestRecordsThatAreNone(t *testing.T) { // 20.2: ErrSum of Data that is no record, and of what Do refuses; the first one or behind others
	c := with(func(c *api.Conf) { c.M, c.Target[1] = 2, 1000 })
	_, _, o := two(t, c)
	sample, beat, turn := o.says(0, 1, 0, 5), o.beat(1), o.rotates(2)
	before := []api.Record{o.says(3, 0, 0, 7), o.beat(3), o.rotates(3), closes()}
	changed := func(r api.Record, change func(m *api.Msg)) []byte {
		change(&r.Msg)
		return written(r)
	}
	version := written(beat)
	version[1] = 2
	for i, data := range [][]byte{
		nil, {0}, {1}, {2}, {4}, {255}, {3, 0}, {3, 3},
		append([]byte{3}, written(beat)[1:]...), append([]byte{3}, make([]byte, 32)...),
		written(beat)[:32], written(sample)[:17], append(written(beat), 0), append(written(turn), 3), make([]byte, 33), make([]byte, 48),
		version,
		message(0, beat), message(4, beat), message(255, sample), message(2, beat), message(2, sample), message(1, turn), message(3, turn),
		changed(sample, func(m *api.Msg) { m.Epoch = 0; m.Who = 4 }),
		changed(sample, func(m *api.Msg) { m.Metric = 2 }),
		changed(sample, func(m *api.Msg) { m.Epoch = 9 }),
		changed(sample, func(m *api.Msg) { m.Value = 1<<40 + 1 }),
		changed(beat, func(m *api.Msg) { m.Value = 1 }),
		changed(beat, func(m *api.Msg) { m.Seq = 0 }),
		changed(beat, func(m *api.Msg) { m.Gen = 1 }),
		changed(beat, func(m *api.Msg) { m.Who = 16 }),
		changed(turn, func(m *api.Msg) { m.Gen = 2 }),
		changed(turn, func(m *api.Msg) { m.Kind = 4 }),
	} {
		for n := range len(before) + 1 {
			m := blank(64).holding(2, state.New(c), before[:n]...)
			refuses(t, c, m.laidOver(stroke{8 + n, laid(2, 8+n, 3, data)}), api.ErrSum)
			if n == len(before) {
				fine := m.holding(2, state.New(c), append(slices.Clone(before[:n]), o.beat(0))...)
				if v := agrees(t, c, fine); v.code != api.OK || v.free != 32-8-n-1 {
					t.Fatal(i, v)
				}
			}
		}
	}
	again := blank(64).holding(2, state.New(c), beat, beat)
	refuses(t, c, again, api.ErrSum)
	sameRow := sample
	sameRow.Msg.Seq += 100
	refuses(t, c, blank(64).holding(2, state.New(c), sample, sameRow), api.ErrSum)
	refuses(t, c, blank(64).holding(2, state.New(c), closes(), sample), api.ErrSum)
}

func TestWrongRecords(t *testing.T) { // 20.2: ErrSum of a wrong sum, Place or Kind
	_, _, o := two(t, small())
	records := []api.Record{closes(), o.beat(0), o.rotates(1), o.says(2, 0, 1, 9), closes()}
	m := blank(64).holding(2, state.New(small()), records...)
	for n := range records {
		at := 8 + n
		x := see(m[at])
		for _, wrong := range [][]byte{laid(2, at-1, 3, x.data), laid(2, at+1, 3, x.data), laid(2, 0, 3, x.data), laid(2, at, 1, x.data), laid(2, at, 2, x.data), laid(2, at, 0, x.data), laid(2, at, 4, x.data), laid(2, at+256, 3, x.data)} {
			refuses(t, small(), m.laidOver(stroke{at, wrong}), api.ErrSum)
		}
		for place := 4; place < 63; place++ {
			spoilt := m.copied()
			spoilt[at][place] ^= 128
			refuses(t, small(), spoilt, api.ErrSum)
		}
	}
}

func TestWhatStandsBehindTheRecords(t *testing.T) { // 20.2: behind the first sector that is not of the pass: ErrSum of a whole one of it, at each place; others are of no account
	_, _, o := two(t, small())
	for n := range 23 {
		var records []api.Record
		done := state.New(small())
		for range n {
			records = append(records, o.beat(0))
			done.Do(records[len(records)-1])
		}
		m := blank(64).holding(2, state.New(small()), records...)
		v := verdict{b: done.Bytes(), pass: 2, free: 24 - n}
		finds(t, small(), m, v)
		for _, gap := range [][]byte{make([]byte, 64), counted(64), laid(250, 8+n, 3, []byte{3}), laid(1, 8+n, 3, []byte{3}), append(laid(2, 8+n, 3, []byte{3})[:63], 0)} {
			behind := m.laidOver(stroke{8 + n, gap})
			finds(t, small(), behind, v)
			for place := 8 + n + 1; place < 32; place++ {
				wrong := laid(2, place, 3, []byte{3})
				wrong[12] = 1
				for _, ours := range [][]byte{laid(2, place, 3, []byte{3}), laid(2, 8+n, 3, []byte{3}), laid(2, place, 1, counted(48)), laid(2, 0, 2, nil), wrong} {
					refuses(t, small(), behind.laidOver(stroke{place, ours}), api.ErrSum)
				}
				spoilt := laid(4, place, 3, []byte{3})
				spoilt[12] = 1
				for _, other := range [][]byte{laid(4, place, 3, []byte{3}), laid(3, place, 3, []byte{3}), spoilt, append(laid(2, place, 3, []byte{3})[:63], 4)} {
					finds(t, small(), behind.laidOver(stroke{place, other}), v)
				}
			}
			finds(t, small(), behind.laidOver(stroke{60, laid(2, 28, 3, []byte{3})}), v) // in the other half
		}
	}
}
