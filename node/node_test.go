package node

import (
	"bytes"
	"encoding/hex"
	"math"
	"math/rand/v2"
	"slices"
	"strings"
	"testing"

	"quorumite/api"
	"quorumite/conf"
	"quorumite/mac"
	"quorumite/seal"
	"quorumite/sector"
	"quorumite/state"
	"quorumite/store"
	"quorumite/wire"
)

func TestTheNumbers(t *testing.T) { // those of package api
	kinds := []int{api.KSample, api.KRotate, api.KBeat, api.RAccept, api.RRotate, api.RClose}
	if !slices.Equal(kinds, []int{1, 2, 3, 1, 2, 3}) || api.Long != 48 || api.MaxEpoch != most || api.MaxSeq != most || api.MaxGen != 60000 {
		t.Fatal("others")
	}
	codes := []int{api.OK, api.ErrArg, api.ErrBytes, api.ErrWho, api.ErrGen, api.ErrAuth, api.ErrReplay, api.ErrStale, api.ErrTwice, api.ErrFull, api.ErrDown, api.ErrHold, api.ErrSum}
	for i, code := range codes {
		if code != i {
			t.Fatal(i, code)
		}
	}
}

func TestTheExamples(t *testing.T) { // the chapter's, and the ninth and tenth of DOC.md
	n := makes(t, conf.Default(), sector.New(256))
	if code := n.Receive(nil); code != api.ErrBytes {
		t.Error("of nothing:", code)
	}
	if d, code := n.Tick(); code != api.OK || d != (api.Decision{Replicas: 1, Hold: true}) {
		t.Error("an epoch without samples:", d, code)
	}
	b, _ := seal.New(1, 0).Beat(1)
	b[47]++
	if code := n.Receive(b); code != api.ErrAuth {
		t.Error("a wrong tag:", code)
	}
}

func TestNewOfWhatMayNotBe(t *testing.T) { // 21.1: a configuration; ErrArg ahead of all else, and nothing is written
	bad := begun(small(), 0, 0, 0)
	spoilt := laidOut(bad.c, state.New(bad.c), 1)
	spoilt.Spoil(32, 20, 1)
	down := sector.New(64)
	falls(down)
	for i, c := range []api.Conf{
		{},
		with(func(c *api.Conf) { c.N, c.Sectors = 0, 64 }),
		with(func(c *api.Conf) { c.N, c.Sectors = 17, 64 }),
		with(func(c *api.Conf) { c.Quorum, c.Sectors = 2, 64 }),
		with(func(c *api.Conf) { c.Target[1], c.Sectors = 1, 64 }),
		with(func(c *api.Conf) { c.Sectors = 63 }),
		with(func(c *api.Conf) { c.Sectors = 4097 }),
		with(func(c *api.Conf) { c.Sectors = math.MinInt }),
	} {
		for _, d := range []*sector.Disk{nil, sector.New(1), sector.New(63), sector.New(64), sector.New(256), sector.New(4096), spoilt, down} {
			writes, was := d.Writes(), imageOf(d)
			if n, code := New(c, d); n != nil || code != api.ErrArg || d.Writes() != writes || !bytes.Equal(imageOf(d), was) {
				t.Error(i, d.Len(), code)
			}
		}
	}
}

func TestNewOfADiskOfAnotherNumber(t *testing.T) { // 21.1: and of no disk: ErrArg, and nothing is written
	for _, n := range []int{64, 65, 256, 4096} {
		c := with(func(c *api.Conf) { c.Sectors = n })
		if n, code := New(c, nil); n != nil || code != api.ErrArg {
			t.Error("of no disk:", code)
		}
		for _, other := range []int{1, 63, 64, 65, 66, 128, 255, 256, 257, 4095, 4096} {
			d := sector.New(other)
			x, code := New(c, d)
			if (code == api.OK) != (other == n) || (x == nil) == (code == api.OK) || code != api.OK && (code != api.ErrArg || d.Writes() != 0) {
				t.Error(n, other, code)
			}
		}
	}
}

func TestNewOfANewDisk(t *testing.T) { // 21.1: a new State is written as pass 1
	for _, c := range []api.Conf{
		small(), conf.Default(),
		with(func(c *api.Conf) { c.N, c.F, c.Quorum, c.Sectors = 1, 0, 1, 65 }),
		targets(with(func(c *api.Conf) { c.N, c.F, c.Quorum, c.Min, c.Max, c.Sectors = 16, 5, 11, 7, 8, 4096 }), 1, 2, 3, most),
	} {
		p := two(t, c)
		if !p.n.State().Same(state.New(c)) || p.n.Store().Pass() != 1 || p.d.Writes() != p.used || !bytes.Equal(imageOf(p.d), imageOf(laidOut(c, state.New(c), 1))) {
			t.Error("another one, of", c.N)
		}
		if l := p.n.Rejects(); !slices.Equal(l, make([]int, 13)) {
			t.Error(l)
		}
	}
}

func TestNewOfADiskThatIsDown(t *testing.T) { // 21.1: of a new one ErrDown; one that was written is read all the same
	for n := range 65 {
		d := sector.New(64)
		d.Tear(n)
		for range 2 {
			if x, code := New(small(), d); x != nil || code != api.ErrDown || d.Writes() != 1 {
				t.Fatal(n, code)
			}
		}
		d.Up()
		if x := makes(t, small(), d); !x.State().Same(state.New(small())) || x.Store().Pass() != 1 {
			t.Fatal(n)
		}
	}
	p := two(t, small())
	p.takes(t, p.fresh(api.KBeat, 1))
	p.closes(t, api.Decision{Replicas: 1, Hold: true})
	falls(p.d)
	writes := p.d.Writes()
	x := makes(t, small(), p.d)
	if !x.State().Same(p.n.State()) || p.d.Writes() != writes {
		t.Fatal("another one")
	}
	if code := x.Receive(own(p.c, p.fresh(api.KBeat, 1))); code != api.ErrDown || !x.State().Same(p.n.State()) || p.d.Writes() != writes {
		t.Fatal(code)
	}
	if d, code := x.Tick(); code != api.ErrDown || d != (api.Decision{}) {
		t.Fatal(d, code)
	}
}

func TestNewOfOneThatANodeWrote(t *testing.T) { // 21.1: behind each step it is found as it was, nothing is written, and it goes on
	p := two(t, with(func(c *api.Conf) { c.Sectors = 120 }))
	dice := rand.New(rand.NewPCG(21, 1))
	passes := map[int]int{}
	for range 220 {
		switch dice.IntN(11) {
		case 0:
			p.ends(t)
		case 1, 2, 3:
			p.takes(t, p.fresh(api.KBeat, dice.IntN(4)))
		default:
			p.gets(t, p.hurt(dice, p.thrown(dice)))
		}
		writes, was := p.d.Writes(), p.n
		p.n = makes(t, p.c, p.d)
		p.rejects = [13]int{}
		p.stands(t)
		if p.d.Writes() != writes || !p.n.State().Same(was.State()) {
			t.Fatal("New has written, or tells another State")
		}
		passes[p.pass]++
	}
	if len(passes) < 3 {
		t.Fatal(passes)
	}
}

func TestNewIsOpen(t *testing.T) { // 21.1: whatever stands there, its code, its State and its disk
	c := small()
	p := two(t, c)
	for who := range 4 {
		p.takes(t, p.says(who, 0, 1500))
	}
	p.ends(t)
	p.takes(t, p.fresh(api.KRotate, 1))
	one := imageOf(p.d)
	p.fills(t)
	p.takes(t, p.fresh(api.KBeat, 2))
	codes := map[int]int{}
	for k, m := range []image{one, imageOf(p.d)} {
		for at := range m {
			if at%5 != k {
				continue
			}
			m[at] ^= 1 << (at % 8)
			a, b := m.disk(), m.disk()
			s, want := store.Open(c, a)
			n, code := New(c, b)
			codes[code]++
			if code != want || (n == nil) != (code != api.OK) || !bytes.Equal(imageOf(a), imageOf(b)) || a.Writes() != b.Writes() {
				t.Fatal(at, code, want)
			}
			if n != nil && (!n.State().Same(s.State()) || n.Store().Pass() != s.Pass() || n.Store().Free() != s.Free() || !slices.Equal(n.Rejects(), make([]int, 13))) {
				t.Fatal(at, "another one")
			}
			m[at] ^= 1 << (at % 8)
		}
	}
	if codes[api.OK] < 50 || codes[api.ErrSum] < 50 {
		t.Fatal(codes)
	}
}

func TestReceiveByHand(t *testing.T) { // 21.1: of each kind what is written, by its bytes, and what is known behind it
	c, d := with(func(c *api.Conf) { c.N, c.F, c.Quorum, c.CalmDown, c.Period, c.Sectors = 1, 0, 1, 0, 1, 64 }), sector.New(64)
	n, k := makes(t, c, d), mac.Of(1, 0, 0)
	for i, x := range []struct {
		m    api.Msg
		data string // of the cell's: the record's kind, and the message
	}{
		{api.Msg{Kind: api.KSample, Seq: 0x0102, Epoch: 1, Value: 0x0304}, "01 01010000 00000000 0201000000000000 0100000000000000 0403000000000000"},
		{api.Msg{Kind: api.KBeat, Seq: 0x0101}, "01 01030000 00000000 0101000000000000 0000000000000000 0000000000000000"},
		{api.Msg{Kind: api.KRotate, Gen: 1, Seq: 0x0103}, "02 01020000 01000000 0301000000000000 0000000000000000 0000000000000000"},
	} {
		b, _ := wire.Seal(k, x.m)
		if code := n.Receive(b); code != api.OK {
			t.Fatal(i, code)
		}
		data, _ := hex.DecodeString(strings.ReplaceAll(x.data, " ", ""))
		head := []byte{1, 0, 0, 0, byte(3 + i), 0, 3, 33}
		if cell, _ := d.Read(32 + 3 + i); !bytes.Equal(cell[:41], append(head, data...)) || cell[63] != 1 || d.Writes() != 4+i || n.Store().Free() != 28-i {
			t.Fatalf("%d: %x", i, cell)
		}
	}
	s := n.State()
	if !slices.Equal(s.Samples(), []api.Sample{{Epoch: 1, Value: 0x0304}}) || s.Now() != 0 || s.Count() != 1 {
		t.Fatal(s.Samples())
	}
	next, _ := wire.Seal(mac.Of(1, 0, 1), api.Msg{Kind: api.KBeat, Gen: 1, Seq: 1})
	if code := n.Receive(next); code != api.OK {
		t.Fatal("by the next generation's key:", code)
	}
	if l := n.Rejects(); !slices.Equal(l, []int{4, 0, 0, 0, 0, 0, 0, 0, 0, 0, 0, 0, 0}) {
		t.Fatal(l)
	}
	for i, want := range []api.Decision{{Replicas: 1, Hold: true}, {Epoch: 1, Replicas: 1, Want: 1, Values: [4]int64{0x0304}}} {
		if got, code := n.Tick(); code != api.OK || got != want {
			t.Fatal(i, got, code)
		}
		if cell, _ := d.Read(39 + i); !bytes.Equal(cell[:9], []byte{1, 0, 0, 0, byte(7 + i), 0, 3, 1, 3}) {
			t.Fatalf("%x", cell)
		}
	}
}

func TestReceiveOfEachLength(t *testing.T) { // 21.1: ErrBytes of each but the one
	p := two(t, small())
	b := own(p.c, p.fresh(api.KBeat, 1))
	long := slices.Concat(b, b, b, b, b)
	for n := range 240 {
		if n != 48 {
			p.is(t, long[:n:n], api.ErrBytes)
			p.is(t, make([]byte, n), api.ErrBytes)
		}
	}
	p.is(t, nil, api.ErrBytes)
	p.is(t, []byte{}, api.ErrBytes)
	p.is(t, make([]byte, 48), api.ErrBytes)
	p.is(t, make([]byte, 1<<20), api.ErrBytes)
	p.is(t, b[:48:48], api.OK)
	if l := p.n.Rejects(); !slices.Equal(l, []int{1, 0, 482, 0, 0, 0, 0, 0, 0, 0, 0, 0, 0}) {
		t.Fatal(l)
	}
}

func TestReceiveOfEachKind(t *testing.T) { // 21.1: of each collector; a rotation is no acceptance
	c := targets(with(func(c *api.Conf) { c.N = 16 }), 1000, 7, 9)
	p := two(t, c)
	for who := range 16 {
		for metric := range 3 {
			p.takes(t, p.says(who, metric, int64(who*metric)))
		}
		p.takes(t, p.fresh(api.KBeat, who))
		p.takes(t, p.fresh(api.KRotate, who))
		p.takes(t, p.fresh(api.KBeat, who))
		if p.gens[who] != 1 {
			t.Fatal("the test is wrong")
		}
	}
	if len(p.n.State().Samples()) != 48 || p.n.Rejects()[0] != 96 {
		t.Fatal(p.n.Rejects())
	}
}

func TestReceiveOfEachCode(t *testing.T) { // 21.1: by hand, and Rejects behind each of them
	c, d := small(), sector.New(64)
	c.Strikes, c.Window = 1, 4
	n := makes(t, c, d)
	var l []*seal.Sealer
	for who := range 5 {
		l = append(l, seal.New(c.Seed, who))
	}
	want := make([]int, 13)
	is := func(b []byte, code int) {
		t.Helper()
		was, writes := n.State(), d.Writes()
		if got := n.Receive(b); got != code {
			t.Fatal(got, code)
		}
		want[code]++
		if got := n.Rejects(); !slices.Equal(got, want) {
			t.Fatal(got, want)
		}
		if code != api.OK && (!n.State().Same(was) || d.Writes() != writes) {
			t.Fatal("by what was refused something changed")
		}
	}
	of := func(b []byte, code int) []byte {
		if code != api.OK {
			t.Fatal("the test can't go on")
		}
		return b
	}
	is([]byte{1}, api.ErrBytes)
	first := of(l[0].Beat(0))
	is(first, api.OK)
	is(first, api.ErrReplay)
	is(of(l[1].Sample(0, 0, 1000)), api.OK)
	is(of(l[1].Sample(0, 0, 1001)), api.ErrTwice)
	early := of(l[1].Sample(0, 2, 1002))
	is(early, api.ErrStale)
	is(of(l[2].Sample(1, 0, 5)), api.ErrArg)
	is(of(l[4].Beat(0)), api.ErrWho)
	is(of(seal.New(2, 2).Beat(0)), api.ErrAuth)
	turn := of(l[2].Rotate(0))
	next := of(l[2].Beat(0))
	is(next, api.ErrGen)
	is(turn, api.OK)
	is(turn, api.ErrGen)
	is(next, api.OK)
	old := of(l[0].Beat(0))
	for range 4 {
		is(of(l[0].Beat(1)), api.OK)
	}
	is(old, api.ErrReplay) // never taken, but too old
	is(of(l[0].Sample(0, 0, 1005)), api.OK)
	is(of(l[3].Sample(0, 0, 9000)), api.OK)
	n.Tick()
	is(of(l[3].Beat(1)), api.ErrWho) // in quarantine
	is(of(l[0].Beat(0)), api.ErrStale)
	is(early, api.OK)
	for code := api.OK; code != api.ErrFull; {
		_, code = n.Tick()
	}
	now := n.State().Now()
	is(of(l[1].Beat(now)), api.ErrFull)
	is(of(l[1].Beat(now-1)), api.ErrStale)
	falls(d)
	is(of(l[1].Beat(now)), api.ErrDown)
	is(of(l[1].Beat(now-1)), api.ErrStale)
	is(nil, api.ErrBytes)
	d.Up()
	is(of(l[1].Beat(now)), api.ErrDown)
	if got := n.Rejects(); !slices.Equal(got, []int{11, 1, 2, 2, 2, 1, 2, 4, 1, 1, 2, 0, 0}) {
		t.Fatal(got)
	}
}

func TestAMessageBeyondItsBounds(t *testing.T) { // 21.1: ErrBytes of what is no message, though its tag is right; of one that may be sent what else is wrong
	p := two(t, targets(small(), 1000, 1000))
	sample, beat, turn := p.says(1, 1, 5), p.fresh(api.KBeat, 1), p.fresh(api.KRotate, 1)
	for i, x := range []struct {
		m      api.Msg
		change func(m *api.Msg)
		code   int
	}{
		{beat, func(m *api.Msg) { m.Kind = 0 }, api.ErrBytes},
		{beat, func(m *api.Msg) { m.Kind = 4 }, api.ErrBytes},
		{beat, func(m *api.Msg) { m.Kind = 255 }, api.ErrBytes},
		{beat, func(m *api.Msg) { m.Who = 4 }, api.ErrWho},
		{beat, func(m *api.Msg) { m.Who = 15 }, api.ErrWho},
		{beat, func(m *api.Msg) { m.Who = 16 }, api.ErrBytes},
		{beat, func(m *api.Msg) { m.Who = 255 }, api.ErrBytes},
		{beat, func(m *api.Msg) { m.Gen = 1 }, api.ErrGen},
		{beat, func(m *api.Msg) { m.Gen = 60000 }, api.ErrGen},
		{beat, func(m *api.Msg) { m.Gen = 60001 }, api.ErrBytes},
		{beat, func(m *api.Msg) { m.Gen = math.MaxUint32 }, api.ErrBytes},
		{beat, func(m *api.Msg) { m.Seq = 0 }, api.ErrBytes},
		{beat, func(m *api.Msg) { m.Seq = -1 }, api.ErrBytes},
		{beat, func(m *api.Msg) { m.Seq = most + 1 }, api.ErrBytes},
		{beat, func(m *api.Msg) { m.Epoch = -1 }, api.ErrBytes},
		{beat, func(m *api.Msg) { m.Epoch = 2 }, api.ErrStale},
		{beat, func(m *api.Msg) { m.Epoch = most }, api.ErrStale},
		{beat, func(m *api.Msg) { m.Epoch = most + 1 }, api.ErrBytes},
		{beat, func(m *api.Msg) { m.Value = 1 }, api.ErrBytes},
		{beat, func(m *api.Msg) { m.Value = -1 }, api.ErrBytes},
		{beat, func(m *api.Msg) { m.Metric = 1 }, api.ErrBytes},
		{turn, func(m *api.Msg) { m.Gen = 0 }, api.ErrGen},
		{turn, func(m *api.Msg) { m.Gen = 2 }, api.ErrGen},
		{turn, func(m *api.Msg) { m.Gen = 60001 }, api.ErrBytes},
		{turn, func(m *api.Msg) { m.Value = 1 }, api.ErrBytes},
		{turn, func(m *api.Msg) { m.Metric = 1 }, api.ErrBytes},
		{turn, func(m *api.Msg) { m.Epoch = 2 }, api.ErrStale},
		{sample, func(m *api.Msg) { m.Metric = 2 }, api.ErrArg},
		{sample, func(m *api.Msg) { m.Metric = 3 }, api.ErrArg},
		{sample, func(m *api.Msg) { m.Metric = 4 }, api.ErrBytes},
		{sample, func(m *api.Msg) { m.Metric = 255 }, api.ErrBytes},
		{sample, func(m *api.Msg) { m.Value = -1 }, api.ErrBytes},
		{sample, func(m *api.Msg) { m.Value = most + 1 }, api.ErrBytes},
		{sample, func(m *api.Msg) { m.Value = math.MinInt64 }, api.ErrBytes},
	} {
		x.change(&x.m)
		if got := p.gets(t, own(p.c, x.m)); got != x.code {
			t.Errorf("%d: %d, not %d", i, got, x.code)
		}
	}
	for version := range 256 {
		b := laid(beat)
		b[0] = byte(version)
		if version != 1 {
			p.is(t, signed(p.c, 1, 0, b), api.ErrBytes)
		}
	}
	sample.Value = most
	p.takes(t, sample)
}

func TestNumbersAtTheEndsOfTheirBits(t *testing.T) { // 21.1, rule 1: with a tag that is right
	p := two(t, targets(small(), 1000, 1000))
	far := append(wild(), 0, 1, 2, 3, 4, 5, 15, 16, 17, 59999, 60000, 60001, 65535, 65536, most-1, most, math.MaxInt32, math.MaxUint32)
	codes := map[int]int{}
	for _, n := range far {
		for _, m := range []api.Msg{p.says(1, 1, 5), p.fresh(api.KBeat, 2), p.fresh(api.KRotate, 3)} {
			for _, change := range []func(m *api.Msg){
				func(m *api.Msg) { m.Kind = int(n) },
				func(m *api.Msg) { m.Who = int(n) },
				func(m *api.Msg) { m.Metric = int(n) },
				func(m *api.Msg) { m.Gen = int(n) },
				func(m *api.Msg) { m.Seq = n },
				func(m *api.Msg) { m.Epoch = n },
				func(m *api.Msg) { m.Value = n },
			} {
				x := m
				change(&x)
				codes[p.gets(t, own(p.c, x))]++
			}
		}
	}
	if codes[api.ErrBytes] < 200 || codes[api.OK] < 5 || codes[api.ErrGen] < 10 || codes[api.ErrAuth] < 10 {
		t.Fatal(codes)
	}
}

func TestAnotherKey(t *testing.T) { // 21.1, 21.2: ErrAuth, whosever it is
	p := two(t, small())
	p.takes(t, p.fresh(api.KRotate, 3))
	p.ends(t)
	for _, who := range []int{1, 3} {
		for _, m := range []api.Msg{p.says(who, 0, 7), p.fresh(api.KBeat, who), p.fresh(api.KRotate, who)} {
			b, gen := laid(m), sealing(m)
			for other := range 20 {
				if other != who {
					p.is(t, signed(p.c, other, gen, b), api.ErrAuth)
				}
			}
			for _, g := range []int{-1, 0, 1, 2, 3, 60000} {
				if g != gen {
					p.is(t, signed(p.c, who, g, b), api.ErrAuth)
				}
			}
			for _, seed := range []uint64{0, 2, math.MaxUint64} {
				p.is(t, signed(with(func(c *api.Conf) { c.Seed = seed }), who, gen, b), api.ErrAuth)
			}
			for _, k := range []api.Key{{}, {1, 2}, mac.Root(1), mac.Derive(mac.Root(1), "who", uint64(who))} {
				e, _ := wire.Seal(k, m)
				p.is(t, e, api.ErrAuth)
			}
			good := signed(p.c, who, gen, b)
			p.is(t, slices.Concat(b, good[40:], good[32:40]), api.ErrAuth)
			p.is(t, slices.Concat(b, good[32:40], good[32:40]), api.ErrAuth)
			p.is(t, slices.Concat(b, make([]byte, 16)), api.ErrAuth)
		}
		p.takes(t, p.fresh(api.KBeat, who))
	}
}

func TestWhichErrorIsToldFirst(t *testing.T) { // 21.1: where several apply
	p := two(t, with(func(c *api.Conf) { c.Strikes, c.Sectors, c.Window = 1, 64, 4 }))
	p.say(t, 0, 1000, 1000, 1000, 9000)
	p.ends(t) // collector 3 is out, and an epoch is closed
	for range 9 {
		p.takes(t, p.fresh(api.KBeat, 0))
	}
	p.takes(t, p.says(1, 0, 5))
	wrong := func(m api.Msg) []byte { return signed(p.c, 2, 9, laid(m)) }
	m := func(kind, who, metric, gen int, seq, epoch int64) api.Msg {
		return api.Msg{Kind: kind, Who: who, Metric: metric, Gen: gen, Seq: seq, Epoch: epoch}
	}
	for i, x := range []struct {
		b    []byte
		code int
	}{
		{wrong(m(1, 3, 4, 7, 1, 0)), api.ErrBytes},
		{wrong(m(1, 3, 3, 7, 1, 0)), api.ErrWho},
		{wrong(m(1, 4, 3, 7, 1, 0)), api.ErrWho},
		{own(p.c, m(1, 3, 0, 0, 2, 1)), api.ErrWho},
		{wrong(m(1, 0, 3, 7, 1, 0)), api.ErrGen},
		{wrong(m(1, 0, 3, 0, 1, 0)), api.ErrAuth},
		{own(p.c, m(1, 0, 3, 0, 1, 0)), api.ErrReplay},
		{own(p.c, m(1, 0, 3, 0, 99, 0)), api.ErrStale},
		{own(p.c, m(1, 0, 3, 0, 99, 9)), api.ErrStale},
		{own(p.c, m(1, 1, 1, 0, 99, 1)), api.ErrArg},
		{own(p.c, m(1, 1, 0, 0, 2, 1)), api.ErrReplay},
		{own(p.c, m(1, 1, 0, 0, 99, 1)), api.ErrTwice},
	} {
		for range 2 {
			if got := p.gets(t, x.b); got != x.code {
				t.Errorf("%d: %d, not %d", i, got, x.code)
			}
		}
	}
}

func TestEachByteSpoilt(t *testing.T) { // 21.2: each to each other one: it is refused, and as the second telling has it
	p := two(t, small())
	p.takes(t, p.fresh(api.KRotate, 2))
	p.ends(t)
	disk, known := imageOf(p.d), p.n.State().Bytes()
	for _, m := range []api.Msg{p.says(1, 0, 1500), p.fresh(api.KBeat, 2), p.fresh(api.KRotate, 3)} {
		b := own(p.c, m)
		for at := range b {
			for turn := 1; turn < 256; turn++ {
				b[at] ^= byte(turn)
				want := p.receive(b)
				if code := p.n.Receive(b); code != want || code == api.OK || !bytes.Equal(p.n.State().Bytes(), known) {
					t.Fatal(at, turn, code, want)
				}
				b[at] ^= byte(turn)
			}
		}
		if !bytes.Equal(imageOf(p.d), disk) {
			t.Fatal("something was written")
		}
		p.stands(t)
	}
	if l := p.n.Rejects(); l[api.ErrBytes] == 0 || l[api.ErrWho] == 0 || l[api.ErrGen] == 0 || l[api.ErrAuth] == 0 || l[0] != 1 {
		t.Fatal(l)
	}
	p.takes(t, p.says(1, 0, 1500))
	p.takes(t, p.fresh(api.KBeat, 2))
	p.takes(t, p.fresh(api.KRotate, 3))
}

func TestOneMessageUnderAnothersTag(t *testing.T) { // 21.2
	p := two(t, small())
	var l [][]byte
	for who := range 3 {
		for i := range int64(2) {
			m := p.fresh(api.KBeat, who)
			m.Seq += i
			l = append(l, own(p.c, m))
		}
		l = append(l, own(p.c, p.says(who, 0, 5)), own(p.c, p.fresh(api.KRotate, who)))
	}
	for i, a := range l {
		for k, b := range l {
			if i != k {
				p.is(t, slices.Concat(a[:32], b[32:]), api.ErrAuth)
				p.is(t, slices.Concat(a[:40], b[40:]), api.ErrAuth)
			}
		}
	}
}

func TestAnyBytes(t *testing.T) { // 21.2, rule 1: whatever comes in
	p := two(t, small())
	dice := rand.New(rand.NewPCG(21, 2))
	for range 3000 {
		b := make([]byte, []int{48, 48, 48, dice.IntN(100)}[dice.IntN(4)])
		for i := range b {
			b[i] = byte(dice.Uint32())
		}
		if len(b) == 48 && dice.IntN(2) == 0 { // a message that may be sent
			copy(b, laid(api.Msg{Kind: 3, Who: dice.IntN(5), Gen: dice.IntN(3), Seq: 1 + dice.Int64N(9), Epoch: dice.Int64N(3)}))
		}
		if p.gets(t, b) == api.OK {
			t.Fatalf("%x is taken", b)
		}
	}
	if l := p.n.Rejects(); l[api.ErrBytes] < 1000 || l[api.ErrWho] < 100 || l[api.ErrGen] < 100 || l[api.ErrAuth] < 100 {
		t.Fatal(l)
	}
}

func TestANumberIsTakenOnce(t *testing.T) { // 21.1, T3: whatever else a message with it says; and what is too old counts as taken
	for _, window := range []int{1, 2, 5, 64} {
		p := two(t, with(func(c *api.Conf) { c.Window = window }))
		taken := p.takes(t, p.of(api.KBeat, 1, 100))
		p.is(t, taken, api.ErrReplay)
		p.is(t, own(p.c, p.of(api.KSample, 1, 100)), api.ErrReplay)
		p.is(t, own(p.c, p.of(api.KRotate, 1, 100)), api.ErrReplay)
		for _, seq := range []int64{1, 100 - int64(window)} {
			p.is(t, own(p.c, p.of(api.KBeat, 1, seq)), api.ErrReplay)
		}
		for seq := 101 - int64(window); seq < 100; seq++ {
			b := p.takes(t, p.of(api.KBeat, 1, seq))
			p.is(t, b, api.ErrReplay)
		}
		p.takes(t, p.of(api.KBeat, 2, 100)) // another one's
		p.takes(t, p.fresh(api.KRotate, 1))
		p.takes(t, p.of(api.KBeat, 1, 100)) // another generation's
		p.is(t, taken, api.ErrReplay)       // by the old key, in its grace
	}
}

func TestWhatIsRefusedMayBeTakenLater(t *testing.T) { // 21.1, T3: no number is used up by it
	p := two(t, small())
	early := p.fresh(api.KBeat, 1)
	early.Epoch = 3
	b := own(p.c, early)
	next := p.fresh(api.KBeat, 2)
	next.Gen, next.Seq = 1, 1
	for range 2 {
		p.is(t, b, api.ErrStale)
		p.is(t, own(p.c, next), api.ErrGen)
		p.ends(t)
	}
	p.is(t, b, api.OK)
	p.is(t, b, api.ErrReplay)
	p.takes(t, p.fresh(api.KRotate, 2))
	next.Epoch = p.now
	p.is(t, own(p.c, next), api.OK)
	p.say(t, 0, 5)
	twice := p.says(0, 0, 6)
	p.is(t, own(p.c, twice), api.ErrTwice)
	p.ends(t)
	twice.Epoch++
	p.is(t, own(p.c, twice), api.OK)
}

func TestInTime(t *testing.T) { // 21.1: from the epoch now to fresh behind it
	for _, fresh := range []int{1, 2, 8} {
		p := two(t, with(func(c *api.Conf) { c.Fresh = fresh }))
		for range 4 {
			p.ends(t)
		}
		for epoch := int64(0); epoch < 16; epoch++ {
			for _, kind := range []int{api.KSample, api.KBeat} {
				m := p.fresh(kind, 1)
				m.Epoch = epoch
				want := api.OK
				if epoch < 4 || epoch >= 4+int64(fresh) {
					want = api.ErrStale
				}
				p.is(t, own(p.c, m), want)
			}
		}
	}
}

func TestTheOldKeyInItsGrace(t *testing.T) { // 21.1: and not behind it, nor behind another rotation
	for _, grace := range []int{1, 2, 5} {
		p := two(t, with(func(c *api.Conf) { c.Grace = grace }))
		p.ends(t)
		p.takes(t, p.fresh(api.KRotate, 1))
		for since := range grace + 2 {
			for _, gen := range []int{0, 1} {
				m := p.of(api.KBeat, 1, int64(10+since))
				m.Gen = gen
				want := api.OK
				if gen == 0 && since >= grace {
					want = api.ErrGen
				}
				p.is(t, own(p.c, m), want)
			}
			turn := p.of(api.KRotate, 1, 50)
			turn.Gen = 1
			p.is(t, own(p.c, turn), api.ErrGen) // the old key tells of no generation
			p.ends(t)
		}
		p.takes(t, p.fresh(api.KRotate, 1))
		p.takes(t, p.fresh(api.KRotate, 1))
		for gen, want := range []int{api.ErrGen, api.ErrGen, api.OK, api.OK, api.ErrGen} {
			m := p.of(api.KBeat, 1, 60)
			m.Gen = gen
			p.is(t, own(p.c, m), want)
		}
	}
}

func TestOneThatIsOut(t *testing.T) { // 21.1: nothing of it is taken, until its probe is over
	p := two(t, with(func(c *api.Conf) { c.Strikes, c.Probe = 2, 3 }))
	for range 2 {
		p.say(t, 0, 1000, 1000, 1000, 5000)
		p.ends(t)
	}
	for range 3 {
		if !p.n.State().Out(3) {
			t.Fatal("it is not out")
		}
		for _, m := range []api.Msg{p.says(3, 0, 1000), p.fresh(api.KBeat, 3), p.fresh(api.KRotate, 3)} {
			p.is(t, own(p.c, m), api.ErrWho)
		}
		p.say(t, 0, 1000, 1000, 1000)
		p.ends(t)
	}
	for _, m := range []api.Msg{p.says(3, 0, 1000), p.of(api.KBeat, 3, 77), p.of(api.KRotate, 3, 78)} {
		p.takes(t, m)
	}
}

func TestAnEpochWithoutRoom(t *testing.T) { // 21.1: one sample of each collector, metric and epoch; then ErrTwice
	c := targets(with(func(c *api.Conf) { c.N, c.Fresh, c.Sectors = 5, 3, 1000 }), 1000, 1000)
	p := two(t, c)
	for _, want := range []int{api.OK, api.ErrTwice} {
		for who := range 5 {
			for metric := range 2 {
				for ahead := range int64(3) {
					m := p.says(who, metric, int64(want)+ahead)
					m.Epoch += ahead
					p.is(t, own(p.c, m), want)
				}
			}
		}
	}
	p.takes(t, p.fresh(api.KBeat, 4)) // which needs no room
	p.ends(t)
	m := p.says(4, 1, 9)
	p.is(t, own(p.c, m), api.ErrTwice)
	m.Epoch += 2
	p.is(t, own(p.c, m), api.OK)
}

func TestNumbersAsGreatAsTheyMayBe(t *testing.T) { // 21.1
	p := at(t, targets(small(), 1000, most), most-1, 59999, most-2, 3)
	for _, gen := range []int{59999, 60000} {
		b := p.takes(t, p.of(api.KBeat, 1, most))
		p.is(t, b, api.ErrReplay)
		m := p.of(api.KSample, 1, most-1)
		m.Metric, m.Epoch, m.Value = 1, most-int64(60000-gen), most
		p.takes(t, m)
		p.is(t, own(p.c, p.of(api.KBeat, 1, most+1)), api.ErrBytes)
		p.is(t, own(p.c, p.of(api.KBeat, 1, most-32)), api.ErrReplay)
		if gen == 59999 {
			p.takes(t, p.of(api.KRotate, 1, most-2))
		}
	}
	p.is(t, own(p.c, p.of(api.KRotate, 1, most-2)), api.ErrBytes)
}
