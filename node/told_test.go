package node

import (
	"cmp"
	"encoding/binary"
	"math"
	"math/rand/v2"
	"slices"
	"sort"

	"quorumite/api"
	"quorumite/conf"
	"quorumite/mac"
	"quorumite/wire"
)

const most = 1 << 40 // the greatest epoch, number and value

// number is a number of a collector's generation.
type number struct {
	who, gen int
	seq      int64
}

// told is a second telling of a Node: sets and lists of all that ever was taken, said, wanted, counted and decided, and, by how long these are, what is left of the disk.
type told struct {
	c         api.Conf
	now       int64
	gens      []int   // of each collector
	since     []int64 // of each collector
	taken     map[number]bool
	tops      map[[2]int]int64 // the greatest number that was taken, by collector and generation
	samples   []api.Sample
	standings []api.Standing
	wants     []int
	counts    []int // the first one too
	decisions []api.Decision
	rejects   [13]int
	pass      int
	used      int  // how many cells of the pass there are
	tear      int  // how many bytes of the next write are to stay; -1: all
	down      bool // the disk
	dead      bool // the Store, whatever the disk is
	under     *api.Record
}

// begun is a second telling at that epoch, of which nothing is known but that, the generations, and since when they are.
func begun(c api.Conf, now int64, gen int, since int64) *told {
	o := &told{c: c, now: now, taken: map[number]bool{}, tops: map[[2]int]int64{}, standings: make([]api.Standing, c.N), counts: []int{c.Min}, pass: 1, tear: -1}
	for range c.N {
		o.gens, o.since = append(o.gens, gen), append(o.since, since)
	}
	o.used = o.cells()
	return o
}

// cells is how many the State's bytes need.
func (o *told) cells() int {
	numbers := 1 + 9*o.c.N
	numbers += 1 + len(last(o.wants, max(o.c.CalmUp, o.c.CalmDown)+1))
	numbers += 1 + len(last(o.counts, o.c.Period)) + 1
	numbers += 1 + 4*len(o.open())
	numbers += 1 + 8*len(last(o.decisions, 64))
	return (8*numbers + 47) / 48
}

// free is how many sectors are left.
func (o *told) free() int { return o.c.Sectors/2 - o.used }

// written is the code of the disk for r: what the Node's Store asks ahead of doing it.
func (o *told) written(r api.Record) int {
	switch {
	case o.free() == 0 && (o.pass == 250 || o.cells() >= o.c.Sectors/2):
		return api.ErrFull
	case o.tear >= 0:
		if o.tear == 64 && o.free() > 0 {
			o.under = &r
		}
		o.tear, o.down, o.dead = -1, true, true
		return api.ErrDown
	case o.free() == 0:
		o.pass, o.used = o.pass+1, o.cells()
	}
	o.used++
	return api.OK
}

// isDown is whether nothing can be done: if that is asked once while the disk is down, it is so for ever.
func (o *told) isDown() bool {
	o.dead = o.dead || o.down
	return o.dead
}

// receive is Receive.
func (o *told) receive(b []byte) int {
	m, code := o.check(b)
	if code == api.OK {
		code = o.put(m)
	}
	o.rejects[code]++
	return code
}

// put takes m, which was checked.
func (o *told) put(m api.Msg) int {
	if o.isDown() {
		return api.ErrDown
	}
	code := o.written(recorded(m))
	if code == api.OK {
		o.take(m)
	}
	return code
}

// tick is Tick.
func (o *told) tick() (api.Decision, int) {
	if o.isDown() {
		return api.Decision{}, api.ErrDown
	}
	if o.now == most {
		return api.Decision{}, api.ErrArg
	}
	if code := o.written(shut()); code != api.OK {
		return api.Decision{}, code
	}
	return o.end(), api.OK
}

// again is that the disk is up, and a Node is made on it: the one record that was under way may have been written.
func (o *told) again() {
	if r := o.under; r != nil {
		o.used++
		if r.Kind == api.RClose {
			o.end()
		} else {
			o.take(r.Msg)
		}
	}
	o.tear, o.down, o.dead, o.under, o.rejects = -1, false, false, nil, [13]int{}
}

// top is the greatest number that was taken of a generation.
func (o *told) top(who, gen int) int64 { return o.tops[[2]int{who, gen}] }

// sealing is the generation that seals m.
func sealing(m api.Msg) int {
	if m.Kind == api.KRotate {
		return m.Gen - 1
	}
	return m.Gen
}

// seals is whether the generation that seals m may do so now.
func (o *told) seals(m api.Msg) bool {
	has := o.gens[m.Who]
	if m.Kind == api.KRotate || m.Gen == has {
		return sealing(m) == has
	}
	return m.Gen == has-1 && o.now-o.since[m.Who] < int64(o.c.Grace)
}

// was is whether m's number was taken, or is too old.
func (o *told) was(m api.Msg) bool {
	return o.taken[number{m.Who, sealing(m), m.Seq}] || m.Seq <= o.top(m.Who, sealing(m))-int64(o.c.Window)
}

// isThere is whether there is a sample of m's collector, metric and epoch.
func (o *told) isThere(m api.Msg) bool {
	return slices.ContainsFunc(o.samples, func(x api.Sample) bool { return x.Who == m.Who && x.Metric == m.Metric && x.Epoch == m.Epoch })
}

// check is what is asked of an envelope.
func (o *told) check(b []byte) (api.Msg, int) {
	m, head, tag, code := wire.Split(b)
	switch {
	case code != api.OK:
		code = api.ErrBytes
	case m.Who >= o.c.N, o.standings[m.Who].Out:
		code = api.ErrWho
	case !o.seals(m):
		code = api.ErrGen
	case tag != mac.Tag(mac.Of(o.c.Seed, m.Who, sealing(m)), head):
		code = api.ErrAuth
	case o.was(m):
		code = api.ErrReplay
	case m.Epoch < o.now, m.Epoch >= o.now+int64(o.c.Fresh):
		code = api.ErrStale
	case m.Metric >= o.c.M:
		code = api.ErrArg
	case m.Kind == api.KSample && o.isThere(m):
		code = api.ErrTwice
	}
	if code != api.OK {
		return api.Msg{}, code
	}
	return m, api.OK
}

// take takes m.
func (o *told) take(m api.Msg) {
	o.taken[number{m.Who, sealing(m), m.Seq}] = true
	o.tops[[2]int{m.Who, sealing(m)}] = max(o.top(m.Who, sealing(m)), m.Seq)
	switch m.Kind {
	case api.KSample:
		o.samples = append(o.samples, api.Sample{Who: m.Who, Metric: m.Metric, Epoch: m.Epoch, Value: m.Value})
	case api.KRotate:
		o.gens[m.Who], o.since[m.Who] = m.Gen, o.now
	}
}

// rows are the samples of the epoch now by metrics, of those that are not out.
func (o *told) rows() [][]api.Sample {
	rows := make([][]api.Sample, o.c.M)
	for _, x := range o.samples {
		if x.Epoch == o.now && !o.standings[x.Who].Out {
			rows[x.Metric] = append(rows[x.Metric], x)
		}
	}
	return rows
}

// rising are a row's values by size.
func rising(row []api.Sample) []int64 {
	var l []int64
	for _, x := range row {
		l = append(l, x.Value)
	}
	slices.Sort(l)
	return l
}

// end closes the epoch.
func (o *told) end() api.Decision {
	d, rows := api.Decision{Epoch: o.now}, o.rows()
	for i, row := range rows {
		if len(row) < o.c.Quorum {
			d.Hold, d.Values = true, [4]int64{}
			break
		}
		l, sum := rising(row)[o.c.F:len(row)-o.c.F], int64(0)
		for _, v := range l {
			sum += v
		}
		d.Values[i] = sum / int64(len(l))
	}
	d.Replicas = o.counts[len(o.counts)-1]
	if !d.Hold {
		d.Replicas, d.Want = o.next(d.Values[:o.c.M])
	}
	o.counts = append(o.counts, d.Replicas)
	o.judge(rows)
	o.now++
	o.decisions = append(o.decisions, d)
	return d
}

// judge ends the epoch for all standings.
func (o *told) judge(rows [][]api.Sample) {
	heard, struck := map[int]bool{}, map[int]bool{}
	for _, row := range rows {
		if len(row) < o.c.Quorum {
			continue
		}
		median := rising(row)[(len(row)-1)/2]
		for _, x := range row {
			heard[x.Who] = true
			if x.Value > median+o.c.Far || x.Value < median-o.c.Far {
				struck[x.Who] = true
			}
		}
	}
	for who, is := range o.standings {
		switch {
		case is.Out:
			is.Clean++
			if is.Clean == o.c.Probe {
				is = api.Standing{}
			}
		case struck[who]:
			is.Strikes++
			if is.Strikes == o.c.Strikes {
				is = api.Standing{Out: true}
			}
		case heard[who]:
			is.Strikes = max(0, is.Strikes-1)
		}
		o.standings[who] = is
	}
}

// last is the last n of l, or all if they are fewer.
func last[T any](l []T, n int) []T { return l[max(0, len(l)-n):] }

// wanted is what one metric wants: by how far it is from its target, and by trying how many are enough.
func (o *told) wanted(count int, value, target int64) int {
	gap := max(value-target, target-value)
	if 1000*gap <= target*int64(o.c.Tol) {
		return count
	}
	return sort.Search(1000000, func(n int) bool { return int64(n)*target >= int64(count)*value })
}

// next is the count and the want behind an epoch's values.
func (o *told) next(values []int64) (int, int) {
	count, want := o.counts[len(o.counts)-1], 0
	for i, v := range values {
		want = max(want, o.wanted(count, v, o.c.Target[i]))
	}
	o.wants = append(o.wants, want)
	n := count
	if up := slices.Min(last(o.wants, o.c.CalmUp+1)); up > count {
		n = up
	}
	if down := slices.Max(last(o.wants, o.c.CalmDown+1)); down < count {
		n = down
	}
	base := last(o.counts, o.c.Period)[0]
	high := sort.Search(1<<20, func(n int) bool { return n-base >= o.c.PodsUp && 100*(n-base) >= base*o.c.PctUp })
	gone := sort.Search(base, func(n int) bool { return n >= o.c.PodsDown && 100*n >= base*o.c.PctDown })
	return min(max(n, base-gone, o.c.Min), high, o.c.Max), want
}

// open are the samples of epochs that are not closed, by Epoch, Metric and Who.
func (o *told) open() []api.Sample {
	l := slices.DeleteFunc(slices.Clone(o.samples), func(x api.Sample) bool { return x.Epoch < o.now })
	slices.SortFunc(l, func(a, b api.Sample) int {
		return cmp.Or(cmp.Compare(a.Epoch, b.Epoch), cmp.Compare(a.Metric, b.Metric), cmp.Compare(a.Who, b.Who))
	})
	return l
}

// shut is the record that closes an epoch.
func shut() api.Record { return api.Record{Kind: api.RClose} }

// recorded is the record that m belongs to.
func recorded(m api.Msg) api.Record {
	r := api.Record{Kind: 1, Msg: m}
	if m.Kind == 2 {
		r.Kind = 2
	}
	return r
}

// of is a message of that kind by who that would be taken now, as long as the number is new.
func (o *told) of(kind, who int, seq int64) api.Msg {
	m := api.Msg{Kind: kind, Who: who, Gen: o.gens[who], Seq: seq, Epoch: o.now}
	if kind == api.KRotate {
		m.Gen++
	}
	return m
}

// fresh is a message of that kind by who, of the next number.
func (o *told) fresh(kind, who int) api.Msg {
	return o.of(kind, who, o.top(who, o.gens[who])+1)
}

// says is a sample by who for the epoch now, of the next number.
func (o *told) says(who, metric int, value int64) api.Msg {
	m := o.fresh(api.KSample, who)
	m.Metric, m.Value = metric, value
	return m
}

// wild are numbers that no value, number or epoch may be.
func wild() []int64 {
	return []int64{-1, -2, -256, -1 << 31, -1 << 32, -1<<32 + 5, -1 << 40, -1 << 62, math.MinInt64, math.MinInt64 + 1, 1<<40 + 1, 1<<40 + 2, 1 << 41, 1 << 62, math.MaxInt64 - 1, math.MaxInt64}
}

// laid is m in 32 bytes, whatever it is.
func laid(m api.Msg) []byte {
	b := []byte{1, byte(m.Kind), byte(m.Who), byte(m.Metric)}
	b = binary.LittleEndian.AppendUint32(b, uint32(m.Gen))
	for _, n := range []int64{m.Seq, m.Epoch, m.Value} {
		b = binary.LittleEndian.AppendUint64(b, uint64(n))
	}
	return b
}

// signed is b with its tag behind it, by the key of that generation of who.
func signed(c api.Conf, who, gen int, b []byte) []byte {
	tag := mac.Tag(mac.Of(c.Seed, who, gen), b)
	b = binary.LittleEndian.AppendUint64(slices.Clone(b), tag[0])
	return binary.LittleEndian.AppendUint64(b, tag[1])
}

// own is m in an envelope by its own key, whatever it is.
func own(c api.Conf, m api.Msg) []byte { return signed(c, m.Who, sealing(m), laid(m)) }

// with is the default with some parts changed.
func with(change func(c *api.Conf)) api.Conf {
	c := conf.Default()
	change(&c)
	return c
}

// small is the default on a disk of 64 sectors.
func small() api.Conf { return with(func(c *api.Conf) { c.Sectors = 64 }) }

// targets is c with as many metrics as there are targets here.
func targets(c api.Conf, l ...int64) api.Conf {
	c.M, c.Target = len(l), [4]int64{}
	copy(c.Target[:], l)
	return c
}

// thrownConf is a configuration that may be.
func thrownConf(dice *rand.Rand) api.Conf {
	c := conf.Default()
	c.N = 1 + dice.IntN(16)
	c.F = dice.IntN((c.N-1)/3 + 1)
	c.Quorum = 2*c.F + 1 + dice.IntN(c.N-2*c.F)
	var l []int64
	for range 1 + dice.IntN(4) {
		l = append(l, 1000)
	}
	c = targets(c, l...)
	c.Fresh, c.Grace, c.Window = 1+dice.IntN(8), 1+dice.IntN(5), 1+dice.IntN(64)
	c.Tol = dice.IntN(200)
	c.Min = 1 + dice.IntN(5)
	c.Max = c.Min + dice.IntN(300)
	c.CalmUp, c.CalmDown, c.Period = dice.IntN(4), dice.IntN(5), 1+dice.IntN(5)
	c.PodsUp, c.PctUp, c.PodsDown, c.PctDown = 1+dice.IntN(9), 1+dice.IntN(200), 1+dice.IntN(9), 1+dice.IntN(100)
	c.Far, c.Strikes, c.Probe = 50, 1+dice.IntN(3), 1+dice.IntN(4)
	c.Sectors = []int{64 + dice.IntN(40), 200 + dice.IntN(200), 1000}[dice.IntN(3)]
	c.Seed = dice.Uint64()
	return c
}

// thrownValue is a value near base, or farther from it than Far.
func thrownValue(dice *rand.Rand, c api.Conf, base int64, lies bool) int64 {
	if !lies {
		return base + dice.Int64N(c.Far/2+1)
	}
	return []int64{0, base + 2*c.Far, base + 60, max(0, base-2*c.Far), dice.Int64N(5000), most}[dice.IntN(6)]
}

// thrown is a message that is, or nearly is, to be taken.
func (o *told) thrown(dice *rand.Rand) api.Msg {
	who := dice.IntN(o.c.N)
	kind := []int{api.KSample, api.KSample, api.KSample, api.KBeat, api.KRotate}[dice.IntN(5)]
	m := o.of(kind, who, o.top(who, o.gens[who])+dice.Int64N(4)-1)
	if m.Kind == api.KSample {
		m.Metric, m.Value = dice.IntN(o.c.M), thrownValue(dice, o.c, 1000, dice.IntN(2) == 0)
		m.Epoch += dice.Int64N(int64(o.c.Fresh))
	}
	switch dice.IntN(20) {
	case 0:
		m.Who = dice.IntN(17)
	case 1, 2:
		m.Gen = max(0, m.Gen-1)
	case 3:
		m.Gen++
	case 4:
		m.Seq -= dice.Int64N(70)
	case 5, 13, 14:
		m.Epoch += dice.Int64N(12) - 3
	case 6, 7, 15:
		m.Metric += dice.IntN(3)
	case 16: // of a metric that is not there
		m = o.says(who, o.c.M, 5)
	case 8:
		m.Value = wild()[dice.IntN(len(wild()))]
	case 9:
		m.Kind = dice.IntN(5)
	case 10, 11, 12: // a place of which there is a sample
		if l := o.open(); len(l) > 0 {
			x := l[dice.IntN(len(l))]
			m = o.of(api.KSample, x.Who, o.top(x.Who, o.gens[x.Who])+1)
			m.Metric, m.Epoch = x.Metric, x.Epoch
		}
	}
	return m
}

// hurt is m in an envelope, mostly by its own key, and mostly whole.
func (o *told) hurt(dice *rand.Rand, m api.Msg) []byte {
	b := own(o.c, m)
	switch dice.IntN(30) {
	case 0:
		b = signed(o.c, dice.IntN(o.c.N), sealing(m), laid(m))
	case 1:
		b = signed(o.c, m.Who, sealing(m)+dice.IntN(3)-1, laid(m))
	case 2:
		b[dice.IntN(48)] ^= 1 << dice.IntN(8)
	case 3:
		b = b[:dice.IntN(48)]
	case 4:
		b = append(b, make([]byte, 1+dice.IntN(60))...)
	case 5, 13, 14:
		b = make([]byte, dice.IntN(60))
		for i := range b {
			b[i] = byte(dice.Uint32())
		}
	}
	return b
}
