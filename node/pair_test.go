package node

import (
	"bytes"
	"slices"
	"testing"

	"quorumite/api"
	"quorumite/log"
	"quorumite/sector"
	"quorumite/state"
	"quorumite/store"
)

// image is the bytes of a disk's sectors.
type image []byte

// imageOf is what stands on d.
func imageOf(d *sector.Disk) image {
	m := make(image, 0, 64*d.Len())
	for at := range d.Len() {
		b, _ := d.Read(at)
		m = append(m, b...)
	}
	return m
}

// disk is a new disk on which m stands.
func (m image) disk() *sector.Disk {
	d := sector.New(len(m) / 64)
	for at := range d.Len() {
		d.Write(at, m[64*at:64*at+64])
	}
	return d
}

// laidOut is a new disk by c on which s stands as that pass.
func laidOut(c api.Conf, s *state.State, pass uint32) *sector.Disk {
	d := sector.New(c.Sectors)
	for _, x := range store.Cells(c, s.Bytes(), pass) {
		b, _ := log.Put(x)
		d.Write(int(pass%2)*(c.Sectors/2)+x.Place, b)
	}
	return d
}

// falls makes d go down by a write of nothing.
func falls(d *sector.Disk) {
	b, _ := d.Read(0)
	d.Tear(0)
	d.Write(0, b)
}

// makes is a Node of what is known to be let.
func makes(t *testing.T, c api.Conf, d *sector.Disk) *Node {
	t.Helper()
	n, code := New(c, d)
	if n == nil || code != api.OK {
		t.Fatalf("New tells %v, %d", n, code)
	}
	return n
}

// opens is a Store of what is known to be let.
func opens(t *testing.T, c api.Conf, d *sector.Disk) *store.Store {
	t.Helper()
	s, code := store.Open(c, d)
	if s == nil || code != api.OK {
		t.Fatalf("the test can't go on: Open tells %d", code)
	}
	return s
}

// pair is a Node on a disk, the second telling of it, and a Store on a disk of its own to which just the records are done that the second telling takes.
type pair struct {
	*told
	n     *Node
	d     *sector.Disk
	twin  *store.Store
	other *sector.Disk
	seen  int // how many writes there were when the disks were held against each other
}

// two is a pair on new disks.
func two(t *testing.T, c api.Conf) *pair {
	t.Helper()
	return on(t, begun(c, 0, 0, 0), sector.New(c.Sectors), sector.New(c.Sectors))
}

// on is a pair on disks.
func on(t *testing.T, o *told, d, other *sector.Disk) *pair {
	t.Helper()
	p := &pair{told: o, n: makes(t, o.c, d), d: d, twin: opens(t, o.c, other), other: other, seen: -1}
	p.stands(t)
	return p
}

// at is a pair that begins at that epoch as that pass, of whose collectors each has that generation since then.
func at(t *testing.T, c api.Conf, now int64, gen int, since int64, pass uint32) *pair {
	t.Helper()
	b := state.New(c).Bytes()
	put := func(place int, n uint64) {
		for i := range 8 {
			b[8*place+i] = byte(n >> (8 * i))
		}
	}
	put(0, uint64(now))
	for who := range c.N {
		put(1+9*who, uint64(gen))
		put(2+9*who, uint64(since))
	}
	s, code := state.From(c, b)
	if code != api.OK {
		t.Fatal("the test can't go on: there is no such State")
	}
	o := begun(c, now, gen, since)
	o.pass = int(pass)
	return on(t, o, laidOut(c, s, pass), laidOut(c, s, pass))
}

// stands asks that all of the Node is as the second telling has it, and its disk as the Store's.
func (p *pair) stands(t *testing.T) {
	t.Helper()
	s, is := p.n.State(), p.twin.State()
	if !s.Same(is) || !bytes.Equal(s.Bytes(), is.Bytes()) {
		t.Fatal("another State")
	}
	if s.Now() != p.now || s.Count() != p.counts[len(p.counts)-1] {
		t.Fatalf("at %d there are %d, not at %d %d", s.Now(), s.Count(), p.now, p.counts[len(p.counts)-1])
	}
	if !slices.Equal(s.Decisions(), last(p.decisions, 64)) || !slices.Equal(s.Samples(), p.open()) || !slices.Equal(s.Standings(), p.standings) {
		t.Fatalf("%v, %v, %v", s.Decisions(), s.Samples(), s.Standings())
	}
	x := p.n.Store()
	if !x.State().Same(s) || x.Pass() != uint32(p.pass) || x.Free() != p.free() || p.twin.Pass() != x.Pass() || p.twin.Free() != x.Free() {
		t.Fatalf("pass %d, free %d; not %d, %d", x.Pass(), x.Free(), p.pass, p.free())
	}
	if p.d.Writes() != p.other.Writes() || p.d.Down() != p.other.Down() || p.d.Down() != p.down {
		t.Fatal("another disk")
	}
	if p.seen != p.d.Writes() && !bytes.Equal(imageOf(p.d), imageOf(p.other)) { // where nothing was written nothing can have changed
		t.Fatal("another disk")
	}
	p.seen = p.d.Writes()
	if l := p.n.Rejects(); !slices.Equal(l, p.rejects[:]) {
		t.Fatalf("Rejects are %v, not %v", l, p.rejects)
	}
}

// gets lets both receive b; what is told is held against the second telling, and, 21.1 and 21.2, against what State.Check tells.
func (p *pair) gets(t *testing.T, b []byte) int {
	t.Helper()
	were, ahead, writes := bytes.Clone(b), p.n.State(), p.d.Writes()
	m, checked := ahead.Check(b)
	wanted, asked := p.check(b)
	want := p.receive(b)
	if asked == api.OK {
		if _, code := p.twin.Do(recorded(wanted)); code != want {
			t.Fatalf("the test is wrong: %d, not %d", want, code)
		}
	}
	if code := p.n.Receive(b); code != want || m != wanted || checked != asked || checked != api.OK && code != checked {
		t.Fatalf("Receive of %x is %d, not %d", b, code, want)
	}
	if !bytes.Equal(b, were) {
		t.Fatal("what was handed in has changed")
	}
	if want == api.OK {
		ahead.Do(recorded(m))
	}
	if !p.n.State().Same(ahead) || want != api.OK && want != api.ErrDown && p.d.Writes() != writes {
		t.Fatalf("by %x, which is %d, something else changed", b, want)
	}
	p.stands(t)
	return want
}

// is asks that Receive of b tells that code.
func (p *pair) is(t *testing.T, b []byte, code int) {
	t.Helper()
	if got := p.gets(t, b); got != code {
		t.Fatalf("Receive of %x is %d, not %d", b, got, code)
	}
}

// takes asks that m is taken, in an envelope by its own key.
func (p *pair) takes(t *testing.T, m api.Msg) []byte {
	t.Helper()
	b := own(p.c, m)
	p.is(t, b, api.OK)
	return b
}

// ends lets both close the epoch.
func (p *pair) ends(t *testing.T) (api.Decision, int) {
	t.Helper()
	ahead, writes := p.n.State(), p.d.Writes()
	want, wanted := p.tick()
	if d, code := p.twin.Do(shut()); d != want || code != wanted {
		t.Fatalf("the test is wrong: %+v, %d, not %+v, %d", want, wanted, d, code)
	}
	d, code := p.n.Tick()
	if d != want || code != wanted {
		t.Fatalf("Tick is %+v, %d, not %+v, %d", d, code, want, wanted)
	}
	if code == api.OK {
		ahead.Do(shut())
	}
	if !p.n.State().Same(ahead) || code != api.OK && code != api.ErrDown && p.d.Writes() != writes {
		t.Fatalf("by Tick, which is %d, something else changed", code)
	}
	p.stands(t)
	return d, code
}

// closes asks that Tick tells that decision.
func (p *pair) closes(t *testing.T, want api.Decision) {
	t.Helper()
	if d, code := p.ends(t); d != want || code != api.OK {
		t.Fatalf("Tick is %+v, %d, not %+v", d, code, want)
	}
}

// stays asks that Tick tells that code, and no decision.
func (p *pair) stays(t *testing.T, code int) {
	t.Helper()
	if d, got := p.ends(t); d != (api.Decision{}) || got != code {
		t.Fatalf("Tick is %+v, %d, not %d", d, got, code)
	}
}

// say lets collectors from 0 on say these values of a metric for the epoch now; those below 0 are not said.
func (p *pair) say(t *testing.T, metric int, values ...int64) {
	t.Helper()
	for who, v := range values {
		if v >= 0 {
			p.takes(t, p.says(who, metric, v))
		}
	}
}

// tears lets the next write of both disks go down, of which so many bytes stay.
func (p *pair) tears(n int) {
	p.d.Tear(n)
	p.other.Tear(n)
	p.tear = min(max(n, 0), 64)
}

// restarts makes both anew on their disks, which are up then.
func (p *pair) restarts(t *testing.T) {
	t.Helper()
	p.d.Up()
	p.other.Up()
	p.again()
	p.n, p.twin = makes(t, p.c, p.d), opens(t, p.c, p.other)
	p.stands(t)
}

// fills lets beats be taken until no sector is left in the half.
func (p *pair) fills(t *testing.T) {
	t.Helper()
	for p.free() > 0 {
		p.takes(t, p.fresh(api.KBeat, 0))
	}
}
