package node

import (
	"bytes"
	"slices"
	"testing"

	"quorumite/api"
	"quorumite/conf"
	"quorumite/sector"
)

func TestTickByHand(t *testing.T) { // 21.1: when all sent, when too few did, when none did
	p := two(t, conf.Default())
	p.closes(t, api.Decision{Replicas: 1, Hold: true})
	p.say(t, 0, 3000, 3050, 2950, 9000)
	p.closes(t, api.Decision{Epoch: 1, Replicas: 4, Want: 4, Values: [4]int64{3025}})
	p.say(t, 0, -1, 1500, 1500)
	p.closes(t, api.Decision{Epoch: 2, Replicas: 4, Hold: true})
	p.say(t, 0, 1100, -1, 1100, 1090)
	p.closes(t, api.Decision{Epoch: 3, Replicas: 4, Want: 4, Values: [4]int64{1100}})
	p.say(t, 0, 1500)
	p.closes(t, api.Decision{Epoch: 4, Replicas: 4, Hold: true})
	p.say(t, 0, 1500, 1500, 1500, 1500)
	p.closes(t, api.Decision{Epoch: 5, Replicas: 6, Want: 6, Values: [4]int64{1500}})
	for i := range int64(3) {
		p.closes(t, api.Decision{Epoch: 6 + i, Replicas: 6, Hold: true})
	}
	s := p.n.State()
	if s.Now() != 9 || s.Count() != 6 || len(s.Decisions()) != 9 || len(s.Samples()) != 0 {
		t.Fatal(s.Now(), s.Count(), s.Decisions())
	}
}

func TestTickOfSomeMetrics(t *testing.T) { // 21.1: one of which too few sent holds all
	p := two(t, targets(conf.Default(), 1000, 500))
	p.say(t, 0, 2000, 2000, 2000)
	p.say(t, 1, 2000, 2000, 2000, -1)
	p.closes(t, api.Decision{Replicas: 4, Want: 4, Values: [4]int64{2000, 2000}})
	p.say(t, 0, 2000, 2000, 2000, 2000)
	p.say(t, 1, 500, 500)
	p.closes(t, api.Decision{Epoch: 1, Replicas: 4, Hold: true})
}

func TestTickOfWhatWasSentAhead(t *testing.T) { // 21.1: it counts in its own epoch
	p := two(t, conf.Default())
	for who := range 4 {
		m := p.says(who, 0, 2000)
		m.Epoch++
		p.takes(t, m)
	}
	p.closes(t, api.Decision{Replicas: 1, Hold: true})
	p.closes(t, api.Decision{Epoch: 1, Replicas: 2, Want: 2, Values: [4]int64{2000}})
}

func TestTickIsNotCounted(t *testing.T) { // 21.1: by Rejects, whatever it tells
	p := two(t, small())
	p.gets(t, nil)
	p.takes(t, p.fresh(api.KBeat, 1))
	want := []int{1, 0, 1, 0, 0, 0, 0, 0, 0, 0, 0, 0, 0}
	for code := api.OK; code != api.ErrFull; _, code = p.ends(t) {
		if !slices.Equal(p.n.Rejects(), want) {
			t.Fatal(p.n.Rejects())
		}
	}
	falls(p.d)
	if _, code := p.n.Tick(); code != api.ErrDown || !slices.Equal(p.n.Rejects(), want) {
		t.Fatal(code, p.n.Rejects())
	}
	p = at(t, small(), most, 0, 0, 1)
	p.stays(t, api.ErrArg)
	if !slices.Equal(p.n.Rejects(), make([]int, 13)) {
		t.Fatal(p.n.Rejects())
	}
}

func TestTheLastEpoch(t *testing.T) { // 21.1: it can't be closed: ErrArg, and nothing changes; but messages are taken
	p := at(t, small(), most-1, 3, 7, 8)
	p.say(t, 0, 2000, 2000, 2000)
	p.closes(t, api.Decision{Epoch: most - 1, Replicas: 2, Want: 2, Values: [4]int64{2000}})
	for range 3 {
		p.stays(t, api.ErrArg)
		p.takes(t, p.fresh(api.KBeat, 3))
	}
	p.say(t, 0, 1, 1, 1, 1)
	p.stays(t, api.ErrArg)
	p.fills(t)
	p.stays(t, api.ErrArg) // no pass is begun for it
	if p.pass != 8 || p.n.State().Now() != most {
		t.Fatal(p.pass)
	}
}

func TestAFullDisk(t *testing.T) { // 21.1: ErrFull, however often, behind what Check tells; nothing changes and nothing is written
	p := two(t, small())
	for code := api.OK; code != api.ErrFull; _, code = p.ends(t) {
	}
	for range 3 {
		for _, m := range []api.Msg{p.says(1, 0, 5), p.fresh(api.KBeat, 2), p.fresh(api.KRotate, 3)} {
			p.is(t, own(p.c, m), api.ErrFull)
			p.is(t, signed(p.c, 9, 9, laid(m)), api.ErrAuth)
		}
		p.is(t, nil, api.ErrBytes)
		p.stays(t, api.ErrFull)
		p.restarts(t)
	}
	p = at(t, small(), 5, 0, 0, 250)
	l := p.refused(t)
	p.fills(t)
	for code := api.ErrArg; code <= api.ErrTwice; code++ {
		p.is(t, l[code], code)
	}
	p.is(t, own(p.c, p.fresh(api.KBeat, 2)), api.ErrFull)
	p.stays(t, api.ErrFull)
	if p.n.Store().Pass() != 250 {
		t.Fatal(p.n.Store().Pass())
	}
}

func TestTheNextPass(t *testing.T) { // 21.1: by messages of each kind, and by Tick
	for k := range 4 {
		p := two(t, small())
		for range 3 {
			p.fills(t)
			switch k {
			case 0:
				p.takes(t, p.says(1, 0, 5))
			case 1:
				p.takes(t, p.fresh(api.KBeat, 1))
			case 2:
				p.takes(t, p.fresh(api.KRotate, 1))
			case 3:
				p.ends(t)
			}
			if k == 0 {
				p.ends(t)
			}
		}
		if p.pass != 4 {
			t.Fatal(p.pass)
		}
	}
}

// steps are one of each that writes: messages of each kind, and Tick.
func steps() []func(p *pair) ([]byte, bool) {
	return []func(p *pair) ([]byte, bool){
		func(p *pair) ([]byte, bool) { return own(p.c, p.says(1, 0, 2000)), false },
		func(p *pair) ([]byte, bool) { return own(p.c, p.fresh(api.KBeat, 1)), false },
		func(p *pair) ([]byte, bool) { return own(p.c, p.fresh(api.KRotate, 1)), false },
		func(p *pair) ([]byte, bool) { return nil, true },
	}
}

func TestADiskThatGoesDown(t *testing.T) { // 21.1: in the midst of a record and of a pass: ErrDown, and nothing is known that was not ahead; then for ever
	for n := -1; n <= 65; n++ {
		for _, step := range steps() {
			for _, fill := range []bool{false, true} {
				p := two(t, small())
				p.say(t, 0, 2000, -1, 2000, 2000)
				if fill {
					p.fills(t)
				}
				p.tears(n)
				p.is(t, []byte{1}, api.ErrBytes) // what is refused writes nothing
				before := p.n.State()
				b, ticks := step(p)
				if ticks {
					p.stays(t, api.ErrDown)
				} else {
					p.is(t, b, api.ErrDown)
				}
				p.dies(t, before.Bytes())
				p.restarts(t)
				if same := p.n.State().Same(before); same != (fill || n < 64) {
					t.Fatal(n, same)
				}
				if !ticks && !fill && n >= 64 {
					if code := p.gets(t, b); code == api.OK {
						t.Fatal("it is taken twice")
					}
				} else if !ticks {
					p.is(t, b, api.OK)
				}
				p.ends(t)
			}
		}
	}
}

// dies asks that nothing is done any more, whether the disk is up or not, and that what is refused is refused as ever.
func (p *pair) dies(t *testing.T, known []byte) {
	t.Helper()
	for range 2 {
		p.is(t, own(p.c, p.fresh(api.KBeat, 3)), api.ErrDown)
		p.is(t, own(p.c, api.Msg{Kind: api.KBeat, Who: 4, Seq: 1}), api.ErrWho)
		p.is(t, nil, api.ErrBytes)
		p.stays(t, api.ErrDown)
		if !bytes.Equal(p.n.State().Bytes(), known) {
			t.Fatal("something changed")
		}
		p.d.Up()
		p.other.Up()
		p.down = false
	}
}

// refused are an envelope of each code that Check tells.
func (p *pair) refused(t *testing.T) map[int][]byte {
	t.Helper()
	taken := p.takes(t, p.says(1, 0, 5))
	gen, early, metric := p.fresh(api.KBeat, 1), p.fresh(api.KBeat, 1), p.says(1, p.c.M, 5)
	gen.Gen++
	early.Epoch += int64(p.c.Fresh)
	return map[int][]byte{
		api.ErrArg:    own(p.c, metric),
		api.ErrBytes:  taken[:47],
		api.ErrWho:    own(p.c, api.Msg{Kind: api.KBeat, Who: p.c.N, Seq: 1}),
		api.ErrGen:    own(p.c, gen),
		api.ErrAuth:   signed(p.c, 2, 0, laid(p.fresh(api.KBeat, 1))),
		api.ErrReplay: taken,
		api.ErrStale:  own(p.c, early),
		api.ErrTwice:  own(p.c, p.says(1, 0, 5)),
	}
}

func TestADiskThatIsDown(t *testing.T) { // 21.1: each of Check's errors goes ahead of it; and who was not asked to do anything goes on when it is up
	p := two(t, small())
	l := p.refused(t)
	falls(p.d)
	falls(p.other)
	p.down = true
	for code := api.ErrArg; code <= api.ErrTwice; code++ {
		p.is(t, l[code], code)
	}
	p.d.Up()
	p.other.Up()
	p.down = false
	p.takes(t, p.fresh(api.KBeat, 1))
	p.ends(t)
}

func TestATearIsForNoMessageThatIsRefused(t *testing.T) { // 21.2: nothing is written for it
	p := two(t, small())
	b := p.takes(t, p.fresh(api.KBeat, 1))
	p.tears(5)
	for range 3 {
		p.is(t, b, api.ErrReplay)
		p.is(t, b[1:], api.ErrBytes)
	}
	if p.d.Down() {
		t.Fatal("something was written")
	}
	p.d.Up()
	p.other.Up()
	p.tear = -1
	p.takes(t, p.fresh(api.KBeat, 1))
}

func TestOfNil(t *testing.T) { // 21.1: ErrArg, nothing, nil; of one that New did not make likewise
	b := own(conf.Default(), api.Msg{Kind: api.KBeat, Seq: 1})
	for _, n := range []*Node{nil, {}} {
		for range 2 {
			for _, x := range [][]byte{nil, {}, {1}, b} {
				if code := n.Receive(x); code != api.ErrArg {
					t.Error(code)
				}
			}
			if d, code := n.Tick(); code != api.ErrArg || d != (api.Decision{}) {
				t.Error(d, code)
			}
			if n.State() != nil || n.Store() != nil || len(n.Rejects()) != 0 {
				t.Error(n.State(), n.Store(), n.Rejects())
			}
		}
	}
	if n, code := New(api.Conf{}, nil); n != nil || code != api.ErrArg {
		t.Error(code)
	}
}

func TestRejectsIsTheCallers(t *testing.T) { // 21.1, rule 2: thirteen numbers, whatever was told; a change of them changes nothing
	p := two(t, small())
	first := p.n.Rejects()
	if !slices.Equal(first, make([]int, 13)) {
		t.Fatal(first)
	}
	for i := range first {
		first[i] = 77
	}
	p.gets(t, nil)
	second := p.n.Rejects()
	p.gets(t, nil)
	if second[api.ErrBytes] != 1 || p.n.Rejects()[api.ErrBytes] != 2 {
		t.Fatal(second, p.n.Rejects())
	}
	if l := append(p.n.Rejects(), 5); l[api.ErrBytes] != 2 || first[0] != 77 {
		t.Fatal(l)
	}
	other := makes(t, p.c, p.d)
	other.Receive(nil)
	if other.Rejects()[api.ErrBytes] != 1 || p.n.Rejects()[api.ErrBytes] != 2 {
		t.Fatal("one counts for two")
	}
}

func TestTheStateIsTheCallers(t *testing.T) { // rule 2: what is done to it is not done to the Node, and later messages are not done to it
	p := two(t, small())
	own, other := p.n.State(), p.n.State()
	own.Do(shut())
	p.stands(t)
	p.takes(t, p.fresh(api.KBeat, 1))
	p.ends(t)
	p.ends(t)
	if own == other || own.Now() != 1 || other.Now() != 0 || p.n.State().Now() != 2 {
		t.Fatal(own.Now(), other.Now())
	}
	d, l := p.n.State().Decisions(), p.n.State().Standings()
	d[0].Replicas, l[0].Out = 99, true
	p.stands(t)
}

func TestTheStoreIsTheNodes(t *testing.T) { // 21.1: its own, and always that one: what is done to it is done to the Node, and the other way about
	p := two(t, small())
	s := p.n.Store()
	r := recorded(p.fresh(api.KBeat, 1))
	if _, code := s.Do(r); code != api.OK {
		t.Fatal(code)
	}
	p.twin.Do(r)
	p.used++
	p.take(r.Msg)
	p.stands(t)
	p.is(t, own(p.c, r.Msg), api.ErrReplay)
	p.ends(t)
	if p.n.Store() != s || s.State().Now() != 1 || s.Free() != p.free() {
		t.Fatal("another one")
	}
}

func TestWhatIsHandedInMayBeChanged(t *testing.T) { // rule 2: the bytes, and the configuration
	c := small()
	p := two(t, c)
	c.N, c.Seed, c.Sectors = 1, 9, 70
	for _, m := range []api.Msg{p.says(1, 0, 1500), p.fresh(api.KBeat, 2), p.fresh(api.KRotate, 3)} {
		good := own(p.c, m)
		b := append(bytes.Clone(good), 1, 2, 3)
		p.is(t, b[:48], api.OK)
		if !bytes.Equal(b[48:], []byte{1, 2, 3}) {
			t.Fatal("bytes behind it have changed")
		}
		for i := range b {
			b[i] = 0
		}
		p.stands(t)
		if code := p.gets(t, good); code == api.OK {
			t.Fatal("it is taken twice")
		}
	}
	p.ends(t)
}

func TestANodeOfItsOwn(t *testing.T) { // rule 2: two Nodes of two disks have nothing together
	a, b := makes(t, small(), sector.New(64)), two(t, small())
	b.takes(t, b.fresh(api.KBeat, 1))
	b.ends(t)
	if a.State().Now() != 0 || !slices.Equal(a.Rejects(), make([]int, 13)) || a.Store().Free() != 24 {
		t.Fatal("one does what another does")
	}
	if code := a.Receive(own(b.c, api.Msg{Kind: api.KBeat, Who: 1, Seq: 1})); code != api.OK {
		t.Fatal(code)
	}
}
