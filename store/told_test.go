package store

import (
	"bytes"
	"encoding/binary"
	"math"
	"math/rand/v2"
	"slices"
	"testing"

	"quorumite/api"
	"quorumite/conf"
	"quorumite/sector"
	"quorumite/state"
)

// image is the bytes of a disk's sectors.
type image [][]byte

// blank is an image of n sectors that never were written.
func blank(n int) image {
	m := make(image, n)
	for i := range m {
		m[i] = make([]byte, 64)
	}
	return m
}

// imageOf is what stands on d.
func imageOf(d *sector.Disk) image {
	var m image
	for at := range d.Len() {
		b, _ := d.Read(at)
		m = append(m, b)
	}
	return m
}

// copied is an image of its own.
func (m image) copied() image {
	own := slices.Clone(m)
	for i, b := range own {
		own[i] = slices.Clone(b)
	}
	return own
}

// disk is a new disk on which m stands.
func (m image) disk() *sector.Disk {
	d := sector.New(len(m))
	for at, b := range m {
		d.Write(at, b)
	}
	return d
}

// equals is whether both are the same.
func (m image) equals(o image) bool {
	return slices.EqualFunc(m, o, func(a, b []byte) bool { return bytes.Equal(a, b) })
}

// laid is a cell's bytes, as chapter 18 tells them.
func laid(pass uint32, place, kind int, data []byte) []byte {
	b := binary.LittleEndian.AppendUint32(nil, pass)
	b = binary.LittleEndian.AppendUint16(b, uint16(place))
	b = append(b, byte(kind), byte(len(data)))
	b = append(b, data...)
	b = append(b, make([]byte, 56-len(b))...)
	return summed(b, byte(pass))
}

// summed is the first 56 bytes of a sector with their sum and that mark behind them.
func summed(b []byte, mark byte) []byte {
	sum := uint32(0)
	for i, x := range b[:56] {
		sum += uint32(i+1) * (uint32(x) + 1)
	}
	return append(binary.LittleEndian.AppendUint32(slices.Clone(b[:56]), sum), 0, 0, 0, mark)
}

// written is a record's bytes, as chapters 4 and 20 tell them.
func written(r api.Record) []byte {
	if r.Kind == api.RClose {
		return []byte{3}
	}
	m := r.Msg
	b := []byte{byte(r.Kind), 1, byte(m.Kind), byte(m.Who), byte(m.Metric)}
	b = binary.LittleEndian.AppendUint32(b, uint32(m.Gen))
	for _, n := range []int64{m.Seq, m.Epoch, m.Value} {
		b = binary.LittleEndian.AppendUint64(b, uint64(n))
	}
	return b
}

// startOf is the sector of a pass's Place 0, on a disk of n.
func startOf(n int, pass uint32) int {
	if pass%2 == 0 {
		return 0
	}
	return n / 2
}

// stroke is a sector's bytes that were written at a place of the disk.
type stroke struct {
	at int
	b  []byte
}

// passOf is a State's bytes as a pass on a disk of n sectors: one stroke a cell.
func passOf(n int, pass uint32, b []byte) []stroke {
	var l []stroke
	for {
		kind, end := 1, min(48, len(b))
		if len(b) <= 48 {
			kind = 2
		}
		l = append(l, stroke{startOf(n, pass) + len(l), laid(pass, len(l), kind, b[:end])})
		b = b[end:]
		if kind == 2 {
			return l
		}
	}
}

// laidOver is m with strokes laid over it.
func (m image) laidOver(l ...stroke) image {
	m = m.copied()
	for _, x := range l {
		copy(m[x.at], x.b)
	}
	return m
}

// holding is a disk's image that holds a pass of s, and records behind it.
func (m image) holding(pass uint32, s *state.State, records ...api.Record) image {
	l := passOf(len(m), pass, s.Bytes())
	for _, r := range records {
		l = append(l, stroke{startOf(len(m), pass) + len(l), laid(pass, len(l), 3, written(r))})
	}
	return m.laidOver(l...)
}

// told is a second telling of a Store: it keeps all records that ever were done and all sectors that ever were written.
type told struct {
	c       api.Conf
	live    *state.State // to which all was done, and which never was read from bytes
	done    []api.Record
	strokes []stroke
	behind  []int // how many records were done when so many strokes were
	disk    image // on which all strokes were
	pass    uint32
	used    int
	seq     int64   // the last number that was sealed
	gens    []int   // of each collector, if its rotations were done
	strange []int64 // values and epochs that are handed in now and then
}

// begun is the second telling of a Store on a new disk.
func begun(c api.Conf) *told {
	o := &told{c: c, live: state.New(c), behind: []int{0}, disk: blank(c.Sectors), gens: make([]int, c.N), strange: wild()}
	o.begin()
	return o
}

// lay writes sectors.
func (o *told) lay(l ...stroke) {
	for _, x := range l {
		o.strokes = append(o.strokes, x)
		o.behind = append(o.behind, len(o.done))
		copy(o.disk[x.at], x.b)
	}
	o.used += len(l)
}

// begin writes the next pass.
func (o *told) begin() {
	o.pass++
	o.used = 0
	o.lay(passOf(o.c.Sectors, o.pass, o.live.Bytes())...)
}

// free is how many sectors are left in the half.
func (o *told) free() int { return o.c.Sectors/2 - o.used }

// mayBegin is whether there is a next pass, and room for it and a record.
func (o *told) mayBegin() bool {
	return o.pass < 250 && len(passOf(o.c.Sectors, 1, o.live.Bytes()))+1 <= o.c.Sectors/2
}

// redone is the State of which the first n records were done.
func (o *told) redone(n int) *state.State {
	s := state.New(o.c)
	for _, r := range o.done[:n] {
		s.Do(r)
	}
	return s
}

// do is Do.
func (o *told) do(r api.Record) (api.Decision, int) {
	if o.free() == 0 && !o.mayBegin() {
		_, code := o.redone(len(o.done)).Do(r)
		if code == api.OK {
			code = api.ErrFull
		}
		return api.Decision{}, code
	}
	before := o.live.Bytes()
	d, code := o.live.Do(r)
	if code != api.OK {
		return api.Decision{}, code
	}
	if o.free() == 0 {
		o.pass++
		o.used = 0
		o.lay(passOf(o.c.Sectors, o.pass, before)...)
	}
	o.done = append(o.done, r)
	o.lay(stroke{startOf(o.c.Sectors, o.pass) + o.used, laid(o.pass, o.used, 3, written(r))})
	if r.Kind == api.RRotate {
		o.gens[r.Msg.Who]++
	}
	return d, api.OK
}

// at is the disk's image when only so many strokes were written, and so many bytes of the next one.
func (o *told) at(strokes, bytes int) image {
	m := blank(o.c.Sectors).laidOver(o.strokes[:strokes]...)
	if bytes > 0 {
		x := o.strokes[strokes]
		m = m.laidOver(stroke{x.at, x.b[:bytes]})
	}
	return m
}

// closes is the record that an epoch was closed.
func closes() api.Record { return api.Record{Kind: api.RClose} }

// beat is a record that may be done.
func (o *told) beat(who int) api.Record {
	o.seq++
	return api.Record{Kind: api.RAccept, Msg: api.Msg{Kind: api.KBeat, Who: who, Gen: o.gens[who], Seq: o.seq, Epoch: o.live.Now()}}
}

// rotates is a record that may be done.
func (o *told) rotates(who int) api.Record {
	r := o.beat(who)
	r.Kind, r.Msg.Kind = api.RRotate, api.KRotate
	r.Msg.Gen++
	return r
}

// says is a record that may be done, unless who has said so already.
func (o *told) says(who, metric int, ahead, value int64) api.Record {
	r := o.beat(who)
	r.Msg.Kind, r.Msg.Metric, r.Msg.Value = api.KSample, metric, value
	r.Msg.Epoch += ahead
	return r
}

// thrown is a record that mostly may be done.
func (o *told) thrown(dice *rand.Rand) api.Record {
	who := dice.IntN(o.c.N)
	switch k := dice.IntN(20); {
	case k < 4:
		return closes()
	case k < 6:
		return o.rotates(who)
	case k < 9:
		return o.beat(who)
	case k < 17:
		return o.says(who, dice.IntN(o.c.M), dice.Int64N(int64(o.c.Fresh)), 900+dice.Int64N(1200))
	}
	return o.bent(dice, o.says(who, dice.IntN(o.c.M), 0, 1000))
}

// bent is r with a part of it changed.
func (o *told) bent(dice *rand.Rand, r api.Record) api.Record {
	far := o.strange[dice.IntN(len(o.strange))]
	switch dice.IntN(8) {
	case 0:
		r.Kind = int(far)
	case 1:
		r.Kind = dice.IntN(5)
	case 2:
		r.Msg.Kind = dice.IntN(5)
	case 3:
		r.Msg.Who = int(far)
	case 4:
		r.Msg.Gen += dice.IntN(5) - 2
	case 5:
		r.Msg.Seq = far
	case 6:
		r.Msg.Epoch = far
	case 7:
		r.Msg.Value = far
	}
	return r
}

// wild are numbers that belong nowhere.
func wild() []int64 {
	return []int64{-1, -2, -256, 255, 256, 257, 259, -1 << 31, 1 << 31, -1 << 32, 1<<32 + 3, 1 << 40, 1<<40 + 1, 1 << 62, -1 << 62, math.MinInt64, math.MaxInt64}
}

// seen is what a sector holds.
type seen struct {
	isWhole, isRight  bool
	pass, place, kind int
	data              []byte
}

// see reads a sector.
func see(b []byte) seen {
	x := seen{pass: int(binary.LittleEndian.Uint32(b)), place: int(b[4]) + 256*int(b[5]), kind: int(b[6])}
	x.isWhole = 1 <= x.pass && x.pass <= 250 && int(b[63]) == x.pass
	if n := int(b[7]); n <= 48 && x.place <= 4096 && 1 <= x.kind && x.kind <= 3 {
		x.data = b[8 : 8+n]
		x.isRight = bytes.Equal(b, laid(uint32(x.pass), x.place, x.kind, x.data))
	}
	return x
}

// verdict is what Open is to tell of an image.
type verdict struct {
	code  int
	b     []byte // the State's; of a new one too
	pass  uint32
	free  int
	fresh bool // whether a first pass is written
}

// kept is the pass that a half holds: how many cells it has, and all that are of it up to the first that is not.
type kept struct {
	pass  int
	cells int
	run   []seen
	code  int
	tail  bool // whether there is one of it behind the first that is not
}

// keeps reads the half of that parity.
func (m image) keeps(parity int) kept {
	size := len(m) / 2
	var l []seen
	for _, b := range m[parity*size : (parity+1)*size] {
		l = append(l, see(b))
	}
	if !l[0].isWhole || l[0].pass%2 != parity {
		return kept{}
	}
	is := func(x seen) bool { return x.isWhole && x.pass == l[0].pass }
	k := kept{pass: l[0].pass, run: l}
	if n := slices.IndexFunc(l, func(x seen) bool { return !is(x) }); n >= 0 {
		k.run, k.tail = l[:n], slices.ContainsFunc(l[n:], is)
	}
	for i, x := range k.run {
		if !x.isRight || x.place != i || x.kind == 3 {
			return kept{code: api.ErrSum}
		}
		if x.kind == 2 {
			k.cells = i + 1
			return k
		}
	}
	if k.tail {
		return kept{code: api.ErrSum}
	}
	return kept{}
}

// opened is what Open is to tell, by what chapter 20 says of the disk.
func (m image) opened(c api.Conf) verdict {
	even, odd := m.keeps(0), m.keeps(1)
	if even.code+odd.code != 0 {
		return verdict{code: api.ErrSum}
	}
	k := odd
	if even.pass > odd.pass {
		k = even
	}
	if k.pass == 0 {
		b := state.New(c).Bytes()
		return verdict{b: b, pass: 1, free: len(m)/2 - len(passOf(len(m), 1, b)), fresh: true}
	}
	var b []byte
	for _, x := range k.run[:k.cells] {
		b = append(b, x.data...)
	}
	s, code := state.From(c, b)
	if code != 0 || k.tail {
		return verdict{code: api.ErrSum}
	}
	for i, x := range k.run[k.cells:] {
		r, ok := readAs(x.data)
		if !x.isRight || x.place != k.cells+i || x.kind != 3 || !ok {
			return verdict{code: api.ErrSum}
		}
		if _, code := s.Do(r); code != 0 {
			return verdict{code: api.ErrSum}
		}
	}
	return verdict{b: s.Bytes(), pass: uint32(k.pass), free: len(m)/2 - len(k.run)}
}

// readAs is the record that is written so, if there is one.
func readAs(b []byte) (api.Record, bool) {
	if bytes.Equal(b, []byte{3}) {
		return closes(), true
	}
	if len(b) != 33 {
		return api.Record{}, false
	}
	n := func(at int) int64 { return int64(binary.LittleEndian.Uint64(b[at:])) }
	r := api.Record{Kind: int(b[0]), Msg: api.Msg{Kind: int(b[2]), Who: int(b[3]), Metric: int(b[4]), Gen: int(uint32(n(1) >> 32)), Seq: n(9), Epoch: n(17), Value: n(25)}}
	return r, r.Kind != api.RClose && bytes.Equal(written(r), b)
}

// with is the default on a disk of 64 sectors, with some parts changed.
func with(change func(c *api.Conf)) api.Conf {
	c := conf.Default()
	c.Sectors = 64
	change(&c)
	return c
}

// small is the default on a disk of 64 sectors.
func small() api.Conf { return with(func(*api.Conf) {}) }

// tiny is one collector on a disk of 64 sectors: its State is as short as one can be.
func tiny() api.Conf {
	return with(func(c *api.Conf) { c.N, c.F, c.Quorum, c.CalmDown, c.Period = 1, 0, 1, 0, 1 })
}

// thrownConf is a configuration that may be.
func thrownConf(dice *rand.Rand) api.Conf {
	c := conf.Default()
	c.N = 1 + dice.IntN(16)
	c.F = dice.IntN((c.N-1)/3 + 1)
	c.Quorum = 2*c.F + 1 + dice.IntN(c.N-2*c.F)
	c.M = 1 + dice.IntN(4)
	for i := range c.M {
		c.Target[i] = 1000
	}
	c.Fresh, c.Grace, c.Window = 1+dice.IntN(8), 1+dice.IntN(5), 1+dice.IntN(64)
	c.CalmUp, c.CalmDown, c.Period = dice.IntN(4), dice.IntN(5), 1+dice.IntN(5)
	c.Strikes, c.Probe = 1+dice.IntN(3), 1+dice.IntN(4)
	c.Sectors = 64 + dice.IntN(300)
	c.Seed = dice.Uint64()
	return c
}

// opens opens d, which it must.
func opens(t *testing.T, c api.Conf, d *sector.Disk) *Store {
	t.Helper()
	s, code := Open(c, d)
	if s == nil || code != api.OK {
		t.Fatalf("Open tells %d", code)
	}
	return s
}

// refuses opens m, which must tell that code and nothing else, and write nothing.
func refuses(t *testing.T, c api.Conf, m image, code int) {
	t.Helper()
	d := m.disk()
	writes := d.Writes()
	if s, got := Open(c, d); s != nil || got != code {
		t.Fatalf("Open tells %d, not %d", got, code)
	}
	if d.Writes() != writes || !imageOf(d).equals(m) {
		t.Fatal("Open has written")
	}
}

// finds opens m twice, which must tell all that v does each time.
func finds(t *testing.T, c api.Conf, m image, v verdict) {
	t.Helper()
	if v.code != api.OK {
		refuses(t, c, m, v.code)
		return
	}
	d := m.disk()
	writes := d.Writes()
	for range 2 {
		s := opens(t, c, d)
		if !bytes.Equal(s.State().Bytes(), v.b) || s.Pass() != v.pass || s.Free() != v.free {
			t.Fatalf("pass %d, free %d; not %d, %d; or another State", s.Pass(), s.Free(), v.pass, v.free)
		}
		want := m
		if v.fresh {
			l := passOf(len(m), 1, v.b)
			want = m.laidOver(l...)
			if d.Writes() != writes+len(l) {
				t.Fatalf("%d writes", d.Writes()-writes)
			}
		} else if d.Writes() != writes {
			t.Fatal("Open has written")
		}
		if !imageOf(d).equals(want) {
			t.Fatal("another disk")
		}
	}
}

// agrees opens m, which must tell what the second reader does.
func agrees(t *testing.T, c api.Conf, m image) verdict {
	t.Helper()
	v := m.opened(c)
	finds(t, c, m, v)
	return v
}

// stands is whether s and d are as the second telling has them.
func (o *told) stands(t *testing.T, s *Store, d *sector.Disk) {
	t.Helper()
	if !s.State().Same(o.live) || s.Pass() != o.pass || s.Free() != o.free() {
		t.Fatalf("pass %d, free %d; not %d, %d; or another State", s.Pass(), s.Free(), o.pass, o.free())
	}
	if !imageOf(d).equals(o.disk) || d.Writes() != len(o.strokes) {
		t.Fatalf("another disk, or %d writes, not %d", d.Writes(), len(o.strokes))
	}
}

// both does r to both, which must tell the same and stand alike.
func (o *told) both(t *testing.T, s *Store, d *sector.Disk, r api.Record) int {
	t.Helper()
	want, wanted := o.do(r)
	got, code := s.Do(r)
	if got != want || code != wanted {
		t.Fatalf("%+v: %+v, %d; not %+v, %d", r, got, code, want, wanted)
	}
	o.stands(t, s, d)
	return code
}

// goes does r to both, which must do it.
func (o *told) goes(t *testing.T, s *Store, d *sector.Disk, r api.Record) {
	t.Helper()
	if code := o.both(t, s, d, r); code != api.OK {
		t.Fatalf("%+v: %d", r, code)
	}
}

// fills does beats until no sector is left in the half.
func (o *told) fills(t *testing.T, s *Store, d *sector.Disk) {
	t.Helper()
	for s.Free() > 0 {
		o.goes(t, s, d, o.beat(0))
	}
}

// two is a Store on a new disk, and the second telling of it.
func two(t *testing.T, c api.Conf) (*Store, *sector.Disk, *told) {
	t.Helper()
	d := sector.New(c.Sectors)
	s, o := opens(t, c, d), begun(c)
	o.stands(t, s, d)
	return s, d, o
}
