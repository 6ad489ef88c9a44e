package node

import (
	"bytes"
	"math/rand/v2"
	"slices"
	"sync"
	"testing"

	"quorumite/api"
	"quorumite/conf"
	"quorumite/seal"
	"quorumite/sector"
	"quorumite/wire"
)

// seen is what came to pass in runs.
type seen struct {
	codes             [13]int // of Receive
	ticks             [13]int
	held, decided     int
	out, back, passes int
	torn, kept        int
}

// network has all envelopes that ever were sent: each may come once, often, late, or never.
type network struct {
	sent  [][]byte
	taken map[string]int // how often each was
}

// run lets both go so many steps: envelopes of all sorts, new ones and such as were sent already, rounds in which most collectors speak, and ticks; now and then a new Node is made on the disk.
func (k *seen) run(t *testing.T, dice *rand.Rand, p *pair, steps int) {
	t.Helper()
	w := network{taken: map[string]int{}}
	liars := dice.Perm(p.c.N)[:p.c.F]
	for range steps {
		switch dice.IntN(12) {
		case 0:
			k.tick(t, p)
		case 1, 2:
			k.round(t, dice, p, &w, liars)
			k.tick(t, p)
		case 3, 4, 5:
			if len(w.sent) > 0 {
				k.comes(t, p, &w, w.sent[dice.IntN(len(w.sent))])
			}
		case 6:
			if dice.IntN(4) == 0 {
				p.restarts(t)
			}
		default:
			b := p.hurt(dice, p.thrown(dice))
			w.sent = append(w.sent, b)
			k.comes(t, p, &w, b)
		}
	}
	k.passes = max(k.passes, p.pass)
}

// round lets most collectors say each metric for the epoch now.
func (k *seen) round(t *testing.T, dice *rand.Rand, p *pair, w *network, liars []int) {
	t.Helper()
	base := []int64{1000, 1000, 900, 700, 1500, 3000}[dice.IntN(6)]
	for _, who := range dice.Perm(p.c.N) {
		for metric := range p.c.M {
			if dice.IntN(20) == 0 {
				continue
			}
			b := own(p.c, p.says(who, metric, thrownValue(dice, p.c, base, slices.Contains(liars, who) || dice.IntN(60) == 0)))
			w.sent = append(w.sent, b)
			k.comes(t, p, w, b)
		}
	}
}

// comes lets an envelope come.
func (k *seen) comes(t *testing.T, p *pair, w *network, b []byte) {
	t.Helper()
	code := p.gets(t, b)
	k.codes[code]++
	if code != api.OK {
		return
	}
	m, _, _, _ := wire.Split(b)
	m = api.Msg{Who: m.Who, Gen: sealing(m), Seq: m.Seq}
	number := string(laid(m))
	w.taken[number]++
	if w.taken[number] > 1 {
		t.Fatalf("T3: %x is taken again", b)
	}
}

// tick lets an epoch end.
func (k *seen) tick(t *testing.T, p *pair) {
	t.Helper()
	was := slices.Clone(p.standings)
	d, code := p.ends(t)
	k.ticks[code]++
	for who, is := range p.standings {
		if is.Out && !was[who].Out {
			k.out++
		}
		if !is.Out && was[who].Out {
			k.back++
		}
	}
	if code == api.OK && d.Hold {
		k.held++
	} else if code == api.OK {
		k.decided++
	}
}

func TestAsThePlainOne(t *testing.T) { // T1, T3, 21.1, 21.2: configurations and envelopes of all sorts
	dice := rand.New(rand.NewPCG(21, 3))
	var k seen
	for i := range 60 {
		c := thrownConf(dice)
		now := []int64{0, 1, 1000, most - 6, most / 2}[i%5]
		k.run(t, dice, at(t, c, now, dice.IntN(3), max(0, now-dice.Int64N(4)), uint32(1+dice.IntN(249))), 50)
	}
	for code, n := range k.codes {
		if is := code == api.ErrDown || code >= api.ErrHold; is != (n == 0) || !is && n < 20 {
			t.Errorf("Receive told code %d %d times", code, n)
		}
	}
	if k.ticks[api.OK] < 200 || k.ticks[api.ErrArg] < 10 || k.ticks[api.ErrFull] < 10 || k.held < 50 || k.decided < 50 || k.out < 10 || k.back < 5 {
		t.Errorf("too little came to pass: %+v", k)
	}
}

func TestTheWholeLifeOfADisk(t *testing.T) { // T1, T3: one Node over many passes
	dice := rand.New(rand.NewPCG(21, 4))
	var k seen
	c := with(func(c *api.Conf) { c.Sectors = 260 })
	k.run(t, dice, two(t, c), 2500)
	if k.passes < 5 || k.ticks[api.ErrFull] > 0 || k.decided < 100 {
		t.Errorf("%+v", k)
	}
}

func TestCrashAfterCrash(t *testing.T) { // T1, T3: torn at random again and again, it goes on from what is there; what was taken ahead of a crash is not taken behind it
	dice := rand.New(rand.NewPCG(21, 5))
	var k seen
	for range 25 {
		c := thrownConf(dice)
		p := two(t, c)
		w := network{taken: map[string]int{}}
		for range 80 {
			tears := dice.IntN(3) == 0
			if tears {
				p.tears([]int{dice.IntN(64), dice.IntN(67) - 1, 64}[dice.IntN(3)])
			}
			switch dice.IntN(5) {
			case 0:
				k.tick(t, p)
			case 1:
				if len(w.sent) > 0 {
					k.comes(t, p, &w, w.sent[dice.IntN(len(w.sent))])
				}
			default:
				b := own(c, p.thrown(dice))
				w.sent = append(w.sent, b)
				k.comes(t, p, &w, b)
			}
			if p.down {
				k.torn++
				if r := p.under; r != nil {
					k.kept++
					w.taken[string(laid(api.Msg{Who: r.Msg.Who, Gen: sealing(r.Msg), Seq: r.Msg.Seq}))]++
				}
			}
			if tears {
				p.restarts(t)
			}
		}
	}
	if k.torn < 100 || k.kept < 5 || k.codes[api.ErrReplay] < 50 {
		t.Errorf("%+v", k)
	}
}

// life is a row of calls of a Node: envelopes, and where there is none a tick.
func life(c api.Conf) [][]byte {
	var l []*seal.Sealer
	for who := range c.N {
		l = append(l, seal.New(c.Seed, who))
	}
	var row [][]byte
	put := func(b []byte, _ int) { row = append(row, b) }
	for epoch := range int64(10) {
		for who, s := range l {
			if who%3 == int(epoch)%3 {
				put(s.Beat(epoch))
			}
			put(s.Sample(0, epoch, 1000+200*epoch+int64(who)))
			if who == int(epoch)%5 {
				put(s.Rotate(epoch))
			}
		}
		row = append(row, nil)
	}
	return row
}

// lives does a call, and tells its code.
func (n *Node) lives(b []byte) int {
	if b == nil {
		_, code := n.Tick()
		return code
	}
	return n.Receive(b)
}

func TestAtWhicheverCallItCrashes(t *testing.T) { // T3 with T4: however much of it is there, what was done is known, and at most the one call under way; all that was sent comes again, and what goes on ends as if it had never crashed
	c := small()
	row := life(c)
	whole := makes(t, c, sector.New(64))
	var known [][]byte
	for _, b := range row {
		known = append(known, whole.State().Bytes())
		if code := whole.lives(b); code != api.OK {
			t.Fatal("the test can't go on:", code)
		}
	}
	for k, b := range row {
		for _, stays := range []int{0, 1, 9, 40, 62, 63, 64} {
			d := sector.New(64)
			n := makes(t, c, d)
			for _, x := range row[:k] {
				n.lives(x)
			}
			d.Tear(stays)
			if code := n.lives(b); code != api.ErrDown || !bytes.Equal(n.State().Bytes(), known[k]) {
				t.Fatal(k, code)
			}
			d.Up()
			n = makes(t, c, d)
			done := !bytes.Equal(n.State().Bytes(), known[k])
			if done && stays < 64 {
				t.Fatal(k, stays, "it was not written")
			}
			for _, x := range row[:k] {
				if x != nil && n.Receive(x) == api.OK {
					t.Fatal(k, "taken twice")
				}
			}
			if code := api.OK; !done || b != nil {
				if code = n.lives(b); (code == api.OK) == done {
					t.Fatal(k, code)
				}
			}
			for _, x := range row[k+1:] {
				if code := n.lives(x); code != api.OK {
					t.Fatal(k, code)
				}
			}
			if !n.State().Same(whole.State()) {
				t.Fatal(k, "another end")
			}
		}
	}
}

func TestTheSameEachTime(t *testing.T) { // rule 3: the same calls give the same answers and the same disk
	dice := rand.New(rand.NewPCG(21, 6))
	p := two(t, small())
	var row [][]byte
	for range 300 {
		b := p.hurt(dice, p.thrown(dice))
		if dice.IntN(12) == 0 {
			b = nil
			p.ends(t)
		} else {
			p.gets(t, b)
		}
		row = append(row, b)
	}
	for range 3 {
		d := sector.New(64)
		n := makes(t, small(), d)
		for _, b := range row {
			n.lives(b)
		}
		if !bytes.Equal(imageOf(d), imageOf(p.d)) || !n.State().Same(p.n.State()) {
			t.Fatal("another disk")
		}
	}
}

func TestManyAtOnce(t *testing.T) { // rule 3: Nodes of disks of their own do not touch one another; and what one refuses is counted, whoever is refused at one time
	p := two(t, small())
	p.takes(t, p.fresh(api.KBeat, 1))
	row := life(small())
	d := sector.New(64)
	want := makes(t, small(), d)
	for _, b := range row {
		want.lives(b)
	}
	var all sync.WaitGroup
	for range 8 {
		all.Go(func() {
			own := sector.New(64)
			n, _ := New(small(), own)
			for i, b := range row {
				n.lives(b)
				if i < 50 && p.n.Receive(nil) != api.ErrBytes || p.n.State().Now() != 0 || p.n.Store().Pass() != 1 || len(p.n.Rejects()) != 13 {
					t.Error("others are in its way")
				}
			}
			if !bytes.Equal(imageOf(own), imageOf(d)) || !slices.Equal(n.Rejects(), want.Rejects()) {
				t.Error("another disk")
			}
		})
	}
	all.Wait()
	p.rejects[api.ErrBytes] += 400
	p.stands(t)
}

func TestTheTellingItself(t *testing.T) { // what is judged by takes what is made, and not all
	o := begun(conf.Default(), 0, 0, 0)
	b := own(o.c, o.fresh(api.KBeat, 1))
	if e, _ := seal.New(1, 1).Beat(0); !bytes.Equal(b, e) {
		t.Fatal("own")
	}
	if o.receive(b) != api.OK || o.receive(b) != api.ErrReplay || o.receive(b[1:]) != api.ErrBytes || o.rejects != [13]int{1, 0, 1, 0, 0, 0, 1} {
		t.Fatal(o.rejects)
	}
	if o.cells() != 8 || o.free() != 119 {
		t.Fatal(o.cells(), o.free())
	}
}
