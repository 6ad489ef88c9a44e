package store

import (
	"bytes"
	"math"
	"math/rand/v2"
	"slices"
	"sync"
	"testing"

	"quorumite/api"
	"quorumite/conf"
	"quorumite/log"
	"quorumite/sector"
	"quorumite/state"
)

func TestTheNumbers(t *testing.T) { // those of package api
	if api.Sector != 64 || api.MaxSectors != 4096 || api.RAccept != 1 || api.RRotate != 2 || api.RClose != 3 || api.ErrArg != 1 || api.ErrFull != 9 || api.ErrDown != 10 || api.ErrSum != 12 {
		t.Fatal("others")
	}
}

func TestDoOfEachKind(t *testing.T) { // 20.3: a record is written, and done; a decision is told
	c := with(func(c *api.Conf) { c.CalmDown = 0 })
	s, d, o := two(t, c)
	for who := range 4 {
		o.goes(t, s, d, o.says(who, 0, 0, 3000))
	}
	o.goes(t, s, d, o.beat(2))
	o.goes(t, s, d, o.rotates(1))
	o.goes(t, s, d, o.beat(1))
	got, code := s.Do(closes())
	want, _ := o.do(closes())
	if code != api.OK || got != want || got != (api.Decision{Replicas: 3, Want: 3, Values: [4]int64{3000}}) {
		t.Fatal(got, code)
	}
	o.stands(t, s, d)
	if s.Free() != 16 || s.State().Count() != 3 || s.State().Now() != 1 {
		t.Fatal(s.Free())
	}
}

func TestDoOfWhatTheStateRefuses(t *testing.T) { // 20.3: its error; nothing is written and nothing changes, with room and without
	c := with(func(c *api.Conf) { c.M, c.Target[1] = 2, 1000 })
	s, d, o := two(t, c)
	sample, beat := o.says(1, 1, 0, 5), o.beat(1)
	o.goes(t, s, d, closes())
	sample.Msg.Epoch = 1
	o.goes(t, s, d, sample)
	o.goes(t, s, d, beat)
	ask := func() {
		t.Helper()
		for i, x := range []struct {
			code   int
			kind   int
			change func(m *api.Msg)
		}{
			{api.ErrArg, 0, func(*api.Msg) {}},
			{api.ErrArg, 4, func(*api.Msg) {}},
			{api.ErrArg, 257, func(*api.Msg) {}},
			{api.ErrArg, -255, func(*api.Msg) {}},
			{api.ErrArg, api.RClose, func(*api.Msg) {}},
			{api.ErrArg, api.RRotate, func(*api.Msg) {}},
			{api.ErrArg, api.RAccept, func(m *api.Msg) { *m = api.Msg{} }},
			{api.ErrArg, api.RAccept, func(m *api.Msg) { m.Kind = api.KRotate }},
			{api.ErrArg, api.RAccept, func(m *api.Msg) { m.Seq = 0 }},
			{api.ErrArg, api.RAccept, func(m *api.Msg) { m.Seq = 1<<40 + 1 }},
			{api.ErrWho, api.RAccept, func(m *api.Msg) { m.Who = 4 }},
			{api.ErrGen, api.RAccept, func(m *api.Msg) { m.Gen = 1 }},
			{api.ErrGen, api.RRotate, func(m *api.Msg) { m.Kind, m.Gen = api.KRotate, 2 }},
			{api.ErrReplay, api.RAccept, func(*api.Msg) {}},
		} {
			r := beat
			x.change(&r.Msg)
			r.Kind = x.kind
			if code := o.both(t, s, d, r); code != x.code {
				t.Fatalf("%d: %d, not %d", i, code, x.code)
			}
		}
		twice, stale := sample, sample
		twice.Msg.Seq, stale.Msg.Seq, stale.Msg.Epoch = 500, 500, 0
		if o.both(t, s, d, twice) != api.ErrTwice || o.both(t, s, d, stale) != api.ErrStale {
			t.Fatal("of a sample")
		}
	}
	ask()
	o.fills(t, s, d)
	ask()
	if s.Pass() != 1 || s.Free() != 0 {
		t.Fatal("a pass was begun for what is refused")
	}
}

func TestTheNextPass(t *testing.T) { // 20.3: of the last sector that is left nothing is to be seen; when none is, the State as it is goes ahead of the record
	s, d, o := two(t, small())
	for i := range 23 {
		o.goes(t, s, d, o.beat(i%4))
	}
	if s.Free() != 1 || s.Pass() != 1 {
		t.Fatal(s.Free(), s.Pass())
	}
	o.goes(t, s, d, closes())
	if s.Free() != 0 || s.Pass() != 1 || d.Writes() != 32 {
		t.Fatal(s.Free(), s.Pass(), d.Writes())
	}
	agrees(t, small(), imageOf(d))
	before, was := s.State().Bytes(), imageOf(d)
	o.goes(t, s, d, o.says(1, 0, 0, 77))
	cells := Cells(small(), before, 2)
	if s.Pass() != 2 || s.Free() != 32-len(cells)-1 || d.Writes() != 32+len(cells)+1 {
		t.Fatal(s.Pass(), s.Free(), d.Writes())
	}
	is := imageOf(d)
	for place, x := range cells {
		b, _ := log.Put(x)
		if !bytes.Equal(is[place], b) {
			t.Fatal("another State was written")
		}
	}
	if !is[32:].equals(was[32:]) {
		t.Fatal("the half of the pass ahead has changed")
	}
	agrees(t, small(), is)
}

func TestPassesInTurn(t *testing.T) { // 20.3: each second one in the other half, over the one that stood there
	c := tiny()
	s, d, o := two(t, c)
	for pass := uint32(1); pass <= 6; pass++ {
		for s.Pass() < pass {
			o.goes(t, s, d, o.beat(0))
		}
		o.fills(t, s, d)
		if s.Pass() != pass || see(imageOf(d)[startOf(64, pass)+31]).pass != int(pass) {
			t.Fatal(s.Pass(), pass)
		}
		agrees(t, c, imageOf(d))
	}
}

func TestANextPassThatDoesNotFit(t *testing.T) { // 20.3: ErrFull, behind the State's error; nothing is written, nothing changes, however often
	s, d, o := two(t, small())
	for {
		r := closes()
		if s.Free() > 0 && o.live.Now() > 30 {
			r = o.beat(0)
		}
		if code := o.both(t, s, d, r); code == api.ErrFull {
			break
		} else if code != api.OK {
			t.Fatal(code)
		}
	}
	if n := len(Cells(small(), s.State().Bytes(), 1)); n < 32 || s.Free() != 0 {
		t.Fatal(n, s.Free())
	}
	for range 3 {
		for _, r := range []api.Record{closes(), o.beat(1), o.rotates(2), o.says(0, 0, 0, 1)} {
			if code := o.both(t, s, d, r); code != api.ErrFull {
				t.Fatal(code)
			}
		}
		if o.both(t, s, d, api.Record{}) != api.ErrArg {
			t.Fatal("the State's error goes first")
		}
		agrees(t, small(), imageOf(d))
		s = opens(t, small(), d)
	}
	d.Tear(5)
	if o.both(t, s, d, closes()) != api.ErrFull || d.Down() {
		t.Fatal("with a Tear")
	}
	d.Write(63, o.disk[63])
	if _, code := s.Do(closes()); code != api.ErrDown {
		t.Fatal("ErrDown goes first")
	}
}

func TestANextPassThatJustFits(t *testing.T) { // 20.3: with one sector left it does; with none, or beyond the half, it does not
	fits := map[bool]int{}
	for n := 0; n <= 12; n++ {
		for cells := 27; cells <= 32; cells++ {
			c := with(func(c *api.Conf) { c.N = 4 + n })
			s := long(c, cells)
			if s == nil {
				continue
			}
			var fill []api.Record
			for k := range 32 - cells {
				fill = append(fill, api.Record{Kind: api.RAccept, Msg: api.Msg{Kind: api.KBeat, Seq: int64(k + 1)}})
				s.Do(fill[k])
			}
			m := blank(64).holding(6, long(c, cells), fill...)
			d := m.disk()
			x := opens(t, c, d)
			if x.Free() != 0 || x.Pass() != 6 || !x.State().Same(s) {
				t.Fatal(x.Free(), x.Pass())
			}
			writes := d.Writes()
			_, code := x.Do(api.Record{Kind: api.RAccept, Msg: api.Msg{Kind: api.KBeat, Seq: 99}})
			fits[cells < 32]++
			if cells == 32 {
				if code != api.ErrFull || d.Writes() != writes || x.Pass() != 6 || x.Free() != 0 || !imageOf(d).equals(m) || !x.State().Same(s) {
					t.Fatal(cells, code)
				}
				continue
			}
			if code != api.OK || d.Writes() != writes+cells+1 || x.Pass() != 7 || x.Free() != 31-cells {
				t.Fatal(cells, code, x.Free())
			}
			agrees(t, c, imageOf(d))
		}
	}
	if fits[true] < 10 || fits[false] < 3 {
		t.Fatal(fits)
	}
}

// long is a State by c whose Bytes are just so many cells long; nil, if there is none.
func long(c api.Conf, cells int) *state.State {
	s := state.New(c)
	for range 70 {
		if len(passOf(c.Sectors, 1, s.Bytes())) == cells {
			return s
		}
		s.Do(closes())
	}
	return nil
}

func TestAFirstPassThatDoesNotFit(t *testing.T) { // 20.2: ErrFull, and nothing is written; ErrDown goes ahead. No disk of 64 sectors and more is too small, so the sectors are fewer here than the configuration's
	for _, x := range []struct {
		c     api.Conf
		cells int
	}{{tiny(), 3}, {small(), 8}, {with(func(c *api.Conf) { c.N = 16 }), 26}} {
		for n := 2; n <= 60; n++ {
			d := sector.New(n)
			s := &Store{conf: x.c, disk: d}
			code := s.start()
			if n/2 > x.cells {
				if code != api.OK || d.Writes() != x.cells || s.Pass() != 1 || s.Free() != n/2-x.cells {
					t.Fatal(n, code, s.Free())
				}
				continue
			}
			if code != api.ErrFull || d.Writes() != 0 || s.Pass() != 0 {
				t.Fatal(n, code)
			}
			d.Tear(3)
			if code := (&Store{conf: x.c, disk: d}).start(); code != api.ErrFull || d.Down() {
				t.Fatal(n, code)
			}
			d.Write(0, make([]byte, 64))
			if code := (&Store{conf: x.c, disk: d}).start(); code != api.ErrDown {
				t.Fatal(n, code)
			}
		}
	}
}

func TestTheLastPasses(t *testing.T) { // 20.3: 250 is the last one: ErrFull then, for ever
	for _, pass := range []uint32{248, 249, 250} {
		beats := make([]api.Record, 24)
		done := state.New(small())
		for i := range beats {
			beats[i] = api.Record{Kind: api.RAccept, Msg: api.Msg{Kind: api.KBeat, Who: i % 4, Seq: int64(i/4 + 1)}}
			done.Do(beats[i])
		}
		m := blank(64).holding(pass, state.New(small()), beats...)
		d := m.disk()
		s := opens(t, small(), d)
		writes := d.Writes()
		for range 3 {
			_, code := s.Do(closes())
			if pass < 250 {
				if code != api.OK {
					t.Fatal(code)
				}
				continue
			}
			if code != api.ErrFull || d.Writes() != writes || s.Pass() != 250 || s.Free() != 0 || !s.State().Same(done) || !imageOf(d).equals(m) {
				t.Fatal(pass, code)
			}
		}
		if pass < 250 && (s.Pass() != pass+1 || s.Free() != 21) {
			t.Fatal(s.Pass(), s.Free())
		}
		if _, code := s.Do(api.Record{}); code != api.ErrArg {
			t.Fatal(code)
		}
		agrees(t, small(), imageOf(d))
	}
}

func TestAWholeLife(t *testing.T) { // 20.3: all passes of a disk, one after another, until there is none; with each record as the second telling has it
	c := with(func(c *api.Conf) { c.N, c.F, c.Quorum = 16, 5, 11 })
	s, d, o := two(t, c)
	for {
		code := o.both(t, s, d, o.beat(int(o.seq)%16))
		if code == api.ErrFull {
			break
		}
		if code != api.OK {
			t.Fatal(code)
		}
		if s.Free() == 0 && s.Pass()%50 == 0 {
			s = opens(t, c, d)
			o.stands(t, s, d)
		}
	}
	if s.Pass() != 250 || s.Free() != 0 || d.Writes() != 250*32 || s.State().Now() != 0 {
		t.Fatal(s.Pass(), s.Free(), d.Writes())
	}
	s = opens(t, c, d)
	if o.both(t, s, d, closes()) != api.ErrFull {
		t.Fatal("it lives longer")
	}
}

// falls makes d go down by a write of nothing.
func falls(d *sector.Disk) {
	b, _ := d.Read(0)
	d.Tear(0)
	d.Write(0, b)
}

func TestOpenWhileTheDiskIsDown(t *testing.T) { // 20.2: of a new one ErrDown; what is there is read all the same, but nothing can be done
	for n := range 65 {
		d := sector.New(64)
		d.Tear(n)
		s, code := Open(small(), d)
		if s != nil || code != api.ErrDown || d.Writes() != 1 {
			t.Fatal(n, code)
		}
		first := passOf(64, 1, state.New(small()).Bytes())[0]
		if m := blank(64).laidOver(stroke{32, first.b[:n]}); !imageOf(d).equals(m) {
			t.Fatal("another beginning")
		}
		if s, code := Open(small(), d); s != nil || code != api.ErrDown || d.Writes() != 1 {
			t.Fatal(n, code)
		}
		d.Up()
		if s := opens(t, small(), d); s.Pass() != 1 || s.Free() != 24 || !s.State().Same(state.New(small())) {
			t.Fatal("again")
		}
	}
	s, d, o := two(t, small())
	o.goes(t, s, d, closes())
	falls(d)
	writes := d.Writes()
	x := opens(t, small(), d)
	if !x.State().Same(s.State()) || x.Pass() != 1 || x.Free() != 23 {
		t.Fatal("another one")
	}
	for _, up := range []bool{false, true} {
		if up {
			d.Up()
		}
		if got, code := x.Do(closes()); code != api.ErrDown || got != (api.Decision{}) || d.Writes() != writes {
			t.Fatal(got, code)
		}
	}
}

func TestATearThatWaitsHurtsNoReading(t *testing.T) { // 20.2: of a disk with a pass nothing is written, so the Tear is still there for the first record
	_, d, o := two(t, small())
	d.Tear(7)
	x := opens(t, small(), d)
	if d.Down() {
		t.Fatal("Open has written")
	}
	if _, code := x.Do(closes()); code != api.ErrDown || !d.Down() || x.Free() != 24 {
		t.Fatal(code)
	}
	finds(t, small(), imageOf(d), verdict{b: o.live.Bytes(), pass: 1, free: 24})
}

func TestADiskThatGoesDown(t *testing.T) { // 20.3: ErrDown ahead of the State's error; and for ever, also when it is up again
	s, d, o := two(t, small())
	o.goes(t, s, d, closes())
	b := s.State().Bytes()
	falls(d)
	writes := d.Writes()
	other := opens(t, small(), d)
	stays := func(x *Store, r api.Record) {
		t.Helper()
		if got, code := x.Do(r); code != api.ErrDown || got != (api.Decision{}) || !bytes.Equal(x.State().Bytes(), b) || x.Pass() != 1 || x.Free() != 23 || d.Writes() != writes {
			t.Fatal(got, code)
		}
	}
	stays(s, closes())
	stays(s, api.Record{})
	d.Up()
	for range 3 {
		stays(s, closes())
		stays(s, o.beat(1))
		stays(s, api.Record{Kind: 77})
	}
	if got, code := other.Do(o.beat(2)); code != api.OK || got != (api.Decision{}) { // it was never asked while the disk was down
		t.Fatal(code)
	}
	falls(d)
	if _, code := other.Do(api.Record{}); code != api.ErrDown { // asked with what is no record, it is down for ever all the same
		t.Fatal(code)
	}
	d.Up()
	if _, code := other.Do(closes()); code != api.ErrDown || other.Free() != 22 {
		t.Fatal(code)
	}
}

func TestAWriteThatGoesDownInARecord(t *testing.T) { // 20.3, 20.4: whatever of it is there: State, Pass and Free stay; all that is done later is ErrDown; opened again it is there, or not
	for n := range 65 {
		s, d, o := two(t, small())
		for i := range n % 24 {
			o.goes(t, s, d, o.beat(i%4))
		}
		b, pass, free := s.State().Bytes(), s.Pass(), s.Free()
		d.Tear(n)
		r := closes()
		got, code := s.Do(r)
		if code != api.ErrDown || got != (api.Decision{}) || !bytes.Equal(s.State().Bytes(), b) || s.Pass() != pass || s.Free() != free || d.Writes() != len(o.strokes)+1 {
			t.Fatal(n, got, code)
		}
		d.Up()
		for range 2 {
			if _, code := s.Do(o.beat(0)); code != api.ErrDown || d.Writes() != len(o.strokes)+1 || !bytes.Equal(s.State().Bytes(), b) {
				t.Fatal(n, code)
			}
		}
		x := opens(t, small(), d)
		if n == 64 {
			o.do(r)
		} else {
			copy(o.disk[startOf(64, pass)+o.used], laid(pass, o.used, 3, []byte{3})[:n])
		}
		if !x.State().Same(o.live) || x.Pass() != pass || x.Free() != o.free() || !imageOf(d).equals(o.disk) {
			t.Fatal(n)
		}
		for range 40 { // it goes on over what was cut off
			want, _ := o.do(r)
			if got, code := x.Do(r); got != want || code != api.OK || !x.State().Same(o.live) || x.Free() != o.free() || !imageOf(d).equals(o.disk) {
				t.Fatal(n, got, code)
			}
			r = o.beat(2)
		}
	}
}

func TestAWriteThatGoesDownInAPass(t *testing.T) { // 20.3, 20.4: the one ahead is still there, so State, Pass and Free stay
	for n := range 65 {
		for _, passes := range []uint32{1, 2, 3} {
			s, d, o := two(t, small())
			for s.Pass() < passes || s.Free() > 0 {
				o.goes(t, s, d, o.beat(1))
			}
			b := s.State().Bytes()
			d.Tear(n)
			if got, code := s.Do(closes()); code != api.ErrDown || got != (api.Decision{}) || !bytes.Equal(s.State().Bytes(), b) || s.Pass() != passes || s.Free() != 0 || d.Writes() != len(o.strokes)+1 {
				t.Fatal(n, got, code)
			}
			d.Up()
			if _, code := s.Do(closes()); code != api.ErrDown || s.Pass() != passes || s.Free() != 0 {
				t.Fatal(n, code)
			}
			x := opens(t, small(), d)
			if !x.State().Same(o.live) || x.Pass() != passes || x.Free() != 0 {
				t.Fatal(n, x.Pass(), x.Free())
			}
			want, _ := o.do(closes())
			if got, code := x.Do(closes()); got != want || code != api.OK || !x.State().Same(o.live) || x.Pass() != passes+1 || x.Free() != o.free() || !imageOf(d).equals(o.disk) {
				t.Fatal(n, got, code)
			}
		}
	}
}

func TestTheFirstRecordOfAPassGoesDown(t *testing.T) { // 20.3, 20.4: the pass ahead of it has been written, so Pass and Free are that one's. (A Tear waits for the next write alone, so both are called from within here.)
	for n := range 65 {
		s, d, o := two(t, small())
		o.fills(t, s, d)
		b := s.State().Bytes()
		if s.begin() != api.OK {
			t.Fatal("begin")
		}
		o.begin()
		o.stands(t, s, d)
		d.Tear(n)
		if s.write(closes()) != api.ErrDown || s.Pass() != 2 || s.Free() != 24 || !bytes.Equal(s.State().Bytes(), b) {
			t.Fatal(n, s.Pass(), s.Free())
		}
		d.Up()
		if n == 64 {
			o.do(closes())
		}
		x := opens(t, small(), d)
		if !x.State().Same(o.live) || x.Pass() != 2 || x.Free() != o.free() {
			t.Fatal(n, x.Pass(), x.Free())
		}
	}
}

func TestAtWhicheverWriteItCrashes(t *testing.T) { // T4, 20.4: whatever of that sector is there, what is opened is that behind all that was done, or that and the one record under way; twice the same
	for seed, c := range []api.Conf{small(), tiny(), with(func(c *api.Conf) { c.N, c.M, c.Target[1], c.Sectors = 5, 2, 1000, 71 })} {
		s, d, o := two(t, c)
		dice := rand.New(rand.NewPCG(uint64(seed), 20))
		for o.pass < 4 {
			if o.both(t, s, d, o.thrown(dice)) == api.ErrFull {
				break
			}
		}
		if o.pass < 3 {
			t.Fatal("too few passes")
		}
		for k := range o.strokes {
			for _, n := range []int{0, 1, 2, 4, 5, 6, 7, 8, 9, 20, 41, 55, 56, 57, 60, 61, 62, 63, 64} {
				m := o.at(k, n)
				finds(t, c, m, o.afterwards(k, n))
				if n%16 == 0 {
					agrees(t, c, m)
				}
			}
		}
	}
}

// afterwards is what is to be found when only so many strokes were written, and so many bytes of the next one: of that all or nothing.
func (o *told) afterwards(strokes, bytes int) verdict {
	if bytes == 64 {
		strokes++
	}
	first := o.strokes[:strokes]
	end := len(first) - 1 // the last one behind which the store is as it was told to be
	for end >= 0 && see(first[end].b).kind == 1 {
		end--
	}
	if end < 0 {
		b := state.New(o.c).Bytes()
		return verdict{b: b, pass: 1, free: o.c.Sectors/2 - len(passOf(o.c.Sectors, 1, b)), fresh: true}
	}
	x := see(first[end].b)
	return verdict{b: o.redone(o.behind[end+1]).Bytes(), pass: uint32(x.pass), free: o.c.Sectors/2 - x.place - 1}
}

func TestCrashAfterCrash(t *testing.T) { // T4, 20.4: torn at random again and again, it goes on from what is there, which is what was told, and at most the record under way
	for seed := range uint64(12) {
		dice := rand.New(rand.NewPCG(seed, 4))
		c := []api.Conf{with(func(c *api.Conf) { c.Sectors = 251 }), tiny(), conf.Default()}[seed%3]
		c.Sectors = max(c.Sectors, 230)
		s, d, o := two(t, c)
		torn, kept := 0, 0
		for range 700 {
			r := o.thrown(dice)
			if dice.IntN(4) > 0 {
				_, wanted := o.do(r)
				if _, code := s.Do(r); code != wanted {
					t.Fatal(code, wanted)
				}
				continue
			}
			before := s.State()
			d.Tear(dice.IntN(67) - 1)
			_, code := s.Do(r)
			if code != api.ErrDown {
				d.Up()
				continue
			}
			torn++
			if dice.IntN(2) == 0 {
				opens(t, c, d)
			}
			d.Up()
			s = opens(t, c, d)
			if is := s.State(); !is.Same(before) {
				kept++
				o.do(r)
			}
			if !s.State().Same(o.live) || s.Pass() != o.pass || s.Free() != o.free() {
				t.Fatal(seed, "another one")
			}
		}
		if torn < 20 || kept == 0 {
			t.Fatal(torn, kept)
		}
	}
}

func TestAsThePlainOne(t *testing.T) { // T1, 20.2, 20.3: configurations and records of all sorts, opened again at any step
	for seed := range uint64(60) {
		dice := rand.New(rand.NewPCG(seed, 1))
		c := thrownConf(dice)
		s, d, o := two(t, c)
		codes := map[int]int{}
		for range 150 {
			codes[o.both(t, s, d, o.thrown(dice))]++
			if dice.IntN(10) == 0 {
				s = opens(t, c, d)
				o.stands(t, s, d)
				agrees(t, c, imageOf(d))
			}
		}
		if codes[api.OK] < 40 || codes[api.ErrArg] == 0 {
			t.Fatal(codes)
		}
	}
}

// walked are images of stores of one configuration: of the first pass, of two, of later ones, and of ones that were torn.
func walked(t *testing.T, c api.Conf) []image {
	t.Helper()
	s, d, o := two(t, c)
	l := []image{o.disk.copied()}
	dice := rand.New(rand.NewPCG(3, 3))
	for _, pass := range []uint32{1, 2, 3} {
		for o.pass < pass || o.free() > 9 {
			if o.both(t, s, d, o.thrown(dice)) == api.ErrFull {
				t.Fatal("full")
			}
		}
		l = append(l, o.disk.copied())
	}
	k := len(o.strokes) - o.used - 4 // in the midst of a pass
	return append(l, o.at(k, 30), o.at(len(o.strokes)-1, 50), o.at(len(o.strokes)-o.used+2, 20), o.at(len(o.strokes)-o.used, 0))
}

func TestEachByteSpoilt(t *testing.T) { // 20.2: of each sector, it is told as the second reader tells it: ErrSum, or as if that sector were not there
	for _, c := range []api.Conf{small(), tiny()} {
		codes := map[int]int{}
		dice := rand.New(rand.NewPCG(7, 7))
		for i, m := range walked(t, c) {
			for at := range m {
				for place := i % 3; place < 64; place += 3 {
					was := m[at][place]
					m[at][place] ^= 1 << dice.IntN(8)
					codes[one(t, c, m)]++
					m[at][place] = was
				}
			}
		}
		if codes[api.ErrSum] < 100 || codes[api.OK] < 100 {
			t.Fatal(codes)
		}
	}
}

// one opens m once, which must tell what the second reader does.
func one(t *testing.T, c api.Conf, m image) int {
	t.Helper()
	d, v := m.disk(), m.opened(c)
	s, code := Open(c, d)
	if code != v.code || (s == nil) != (code != api.OK) {
		t.Fatal(code, v.code)
	}
	if s != nil && (!bytes.Equal(s.State().Bytes(), v.b) || s.Pass() != v.pass || s.Free() != v.free) {
		t.Fatalf("pass %d, free %d; not %d, %d; or another State", s.Pass(), s.Free(), v.pass, v.free)
	}
	if !v.fresh && !imageOf(d).equals(m) {
		t.Fatal("Open has written")
	}
	return code
}

func TestEachSectorInAnothersPlace(t *testing.T) { // 20.2: cells of all kinds, places and passes in each sector: as the second reader tells it
	codes := map[int]int{}
	for i, m := range walked(t, tiny()) {
		if i%3 != 1 {
			continue
		}
		pass := uint32(max(m.keeps(0).pass, m.keeps(1).pass))
		for at, was := range m {
			for _, p := range []uint32{pass, pass + 1, max(pass, 2) - 1, pass + 2} {
				for _, place := range []int{at % 32, at%32 + 1, at} {
					for kind := 1; kind <= 3; kind++ {
						for _, data := range [][]byte{nil, {3}, see(was).data, make([]byte, 48)} {
							m[at] = laid(p, place, kind, data)
							codes[one(t, tiny(), m)]++
						}
					}
				}
			}
			for other := range m {
				if other != at {
					m[at] = slices.Clone(m[other])
					codes[one(t, tiny(), m)]++
				}
			}
			m[at] = was
		}
	}
	if codes[api.ErrSum] < 1000 || codes[api.OK] < 1000 {
		t.Fatal(codes)
	}
}

func TestDisksOfAnyBytes(t *testing.T) { // 20.2, rule 1: sectors that are thrown, whole or not, of a few passes
	codes := map[int]int{}
	for seed := range uint64(4000) {
		dice := rand.New(rand.NewPCG(seed, 11))
		s := state.New(tiny())
		m := blank(64).holding(uint32(1+dice.IntN(4)), s, closes()).holding(uint32(1+dice.IntN(4)), s)
		for range dice.IntN(6) {
			b := make([]byte, 64)
			for i := range b {
				b[i] = byte(dice.Uint32())
			}
			at := dice.IntN(64)
			switch dice.IntN(4) {
			case 0:
				b = laid(uint32(dice.IntN(6)), dice.IntN(33), dice.IntN(5), b[:dice.IntN(49)])
			case 1:
				b = laid(uint32(1+dice.IntN(4)), at%32, 3, written(closes()))
			case 2:
				b[0], b[1], b[2], b[3] = byte(dice.IntN(5)), 0, 0, 0
				b[63] = b[0]
			}
			m[at] = b
		}
		codes[one(t, tiny(), m)]++
	}
	if codes[api.ErrSum] < 200 || codes[api.OK] < 200 {
		t.Fatal(codes)
	}
}

func TestADiskByAnotherConfiguration(t *testing.T) { // 20.2: as far as its own rules take what stands there
	codes := map[int]int{}
	for _, m := range walked(t, small()) {
		for _, c := range []api.Conf{
			with(func(c *api.Conf) { c.N = 5 }), with(func(c *api.Conf) { c.Seed = 9 }), with(func(c *api.Conf) { c.Max = 1 }), with(func(c *api.Conf) { c.Min = 2 }),
			with(func(c *api.Conf) { c.Window = 1 }), with(func(c *api.Conf) { c.Fresh = 1 }), with(func(c *api.Conf) { c.Period = 1 }), with(func(c *api.Conf) { c.CalmDown = 0 }),
			with(func(c *api.Conf) { c.Target[0] = 1 }), tiny(),
		} {
			codes[one(t, c, m)]++
		}
	}
	if codes[api.ErrSum] < 10 || codes[api.OK] < 10 {
		t.Fatal(codes)
	}
}

func TestRecordsAtTheEndsOfTheirBits(t *testing.T) { // 20.3, rule 1: never done otherwise than the State does them
	s, d, o := two(t, conf.Default())
	for _, far := range append(wild(), 0, 1, 2, 3, 4, 1<<40-1, math.MaxInt32, math.MaxUint32) {
		for _, r := range []api.Record{closes(), o.beat(1), o.rotates(2), o.says(3, 0, 0, 7)} {
			for _, change := range []func(r *api.Record){
				func(r *api.Record) { r.Kind = int(far) },
				func(r *api.Record) { r.Msg.Kind = int(far) },
				func(r *api.Record) { r.Msg.Who = int(far) },
				func(r *api.Record) { r.Msg.Gen = int(far) },
				func(r *api.Record) { r.Msg.Seq = far },
				func(r *api.Record) { r.Msg.Epoch = far },
				func(r *api.Record) { r.Msg.Value = far },
				func(r *api.Record) { r.Msg.Metric = int(far) },
			} {
				x := r
				change(&x)
				o.both(t, s, d, x)
			}
		}
	}
	agrees(t, conf.Default(), imageOf(d))
}

func TestNumbersAtTheirEnds(t *testing.T) { // 20.2, 20.3: epochs, generations, numbers and values that are as great as they may be are found again
	c := with(func(c *api.Conf) { c.M, c.Target[1], c.Target[2], c.Target[3] = 4, 1<<40, 1, 1000 })
	c.M = 4
	s, d, o := two(t, c)
	o.seq = 1<<40 - 5
	o.goes(t, s, d, o.says(0, 3, 1, 1<<40))
	o.goes(t, s, d, o.says(1, 0, 0, 0))
	beat := o.beat(2)
	beat.Msg.Epoch = 1 << 40
	o.goes(t, s, d, beat)
	o.goes(t, s, d, o.rotates(3))
	turn := o.rotates(3)
	turn.Msg.Epoch = 1 << 40
	o.goes(t, s, d, turn)
	if o.seq != 1<<40 {
		t.Fatal(o.seq)
	}
	agrees(t, c, imageOf(d))

	b := state.New(c).Bytes()
	for i, n := range map[int]uint64{0: 1<<40 - 1, 1: 60000, 2: 1 << 40, 10: 59999, 12: 1 << 40, 13: 1} {
		for k := range 8 {
			b[8*i+k] = byte(n >> (8 * k))
		}
	}
	m := blank(64).laidOver(passOf(64, 250, b)...)
	d = m.disk()
	s = opens(t, c, d)
	if _, code := s.Do(closes()); code != api.OK || s.State().Now() != 1<<40 {
		t.Fatal(code)
	}
	writes := d.Writes()
	if _, code := s.Do(closes()); code != api.ErrArg || d.Writes() != writes {
		t.Fatal("behind the last epoch", code)
	}
	agrees(t, c, imageOf(d))
}

func TestTheStateIsTheCallers(t *testing.T) { // rule 2: what is done to it is not done to the Store, and later records are not done to it
	s, d, o := two(t, small())
	o.goes(t, s, d, o.beat(1))
	own, other := s.State(), s.State()
	if own == other || !own.Same(other) {
		t.Fatal("one for two")
	}
	own.Do(closes())
	own.Do(o.beat(3))
	o.stands(t, s, d)
	if own.Same(other) {
		t.Fatal("they share something")
	}
	o.goes(t, s, d, closes())
	if own.Now() != 1 || other.Now() != 0 || s.State().Now() != 1 {
		t.Fatal(own.Now(), other.Now())
	}
	own, b := s.State(), s.State().Bytes()
	for i := range b {
		b[i] = 1
	}
	o.goes(t, s, d, o.rotates(1))
	if own.Same(s.State()) {
		t.Fatal("what was told has changed")
	}
	o.stands(t, s, d)
}

func TestTwoStoresOfOneDisk(t *testing.T) { // rule 2: what one that was opened does, is not done to another that was opened ahead of it
	s, d, o := two(t, small())
	o.goes(t, s, d, closes())
	x := opens(t, small(), d)
	o.goes(t, x, d, closes())
	if s.State().Now() != 1 || s.Free() != 23 || x.State().Now() != 2 || x.Free() != 22 {
		t.Fatal(s.Free(), x.Free())
	}
}

func TestTheConfigurationMayBeChanged(t *testing.T) { // rule 2
	c := small()
	s, d, o := two(t, c)
	c.N, c.Sectors, c.Target[0] = 1, 4096, 1
	o.goes(t, s, d, o.beat(3))
	o.goes(t, s, d, closes())
}

func TestOfNil(t *testing.T) { // 20.3: ErrArg, nil, 0; of one that Open did not make likewise
	for _, s := range []*Store{nil, {}} {
		for _, r := range []api.Record{{}, closes(), {Kind: api.RAccept, Msg: api.Msg{Kind: api.KBeat, Seq: 1}}} {
			if got, code := s.Do(r); got != (api.Decision{}) || code != api.ErrArg {
				t.Fatal(got, code)
			}
		}
		if s.State() != nil || s.Pass() != 0 || s.Free() != 0 {
			t.Fatal(s.State(), s.Pass(), s.Free())
		}
	}
	if s, code := Open(api.Conf{}, nil); s != nil || code != api.ErrArg {
		t.Fatal(code)
	}
}

func TestTheSameEachTime(t *testing.T) { // rule 3: the same calls give the same answers and the same disk
	var disks []image
	for range 3 {
		dice := rand.New(rand.NewPCG(5, 5))
		s, d, o := two(t, small())
		for range 60 {
			o.both(t, s, d, o.thrown(dice))
		}
		disks = append(disks, imageOf(d))
	}
	if !disks[0].equals(disks[1]) || !disks[0].equals(disks[2]) {
		t.Fatal("another disk")
	}
}

func TestManyAtOnce(t *testing.T) { // rule 3: what only is read may be asked at one time, and stores of disks of their own do not touch one another
	s, d, o := two(t, small())
	o.goes(t, s, d, closes())
	var all sync.WaitGroup
	for i := range 8 {
		all.Go(func() {
			own := o.disk.copied().disk()
			x, code := Open(small(), own)
			for k := range 40 {
				if x == nil || code != api.OK || s.Pass() != 1 || s.Free() != 23 || s.State().Now() != 1 || len(Cells(small(), counted(100), 1)) != 3 {
					t.Error(i, code)
					return
				}
				_, code = x.Do(api.Record{Kind: api.RAccept, Msg: api.Msg{Kind: api.KBeat, Who: i % 4, Seq: int64(k + 1)}})
			}
		})
	}
	all.Wait()
	o.stands(t, s, d)
}

func TestTheSecondReaderItself(t *testing.T) { // the rules by which Open is judged take what is made, and not all
	s := state.New(small())
	m := blank(64).holding(1, s, closes())
	if v := m.opened(small()); v.code != api.OK || v.pass != 1 || v.free != 23 || v.fresh {
		t.Fatal(v)
	}
	if v := blank(64).opened(small()); v.code != api.OK || !v.fresh || v.pass != 1 || v.free != 24 {
		t.Fatal(v)
	}
	m[40][9] ^= 1
	if v := m.opened(small()); v.code != api.ErrSum {
		t.Fatal(v)
	}
	if b := laid(5, 3, 2, []byte{7}); !see(b).isRight || see(make([]byte, 64)).isWhole || see(b).place != 3 {
		t.Fatal("see")
	}
}
