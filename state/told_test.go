package state

import (
	"cmp"
	"encoding/binary"
	"math"
	"math/rand/v2"
	"slices"
	"sort"
	"testing"

	"quorumite/api"
	"quorumite/conf"
	"quorumite/mac"
	"quorumite/wire"
)

// number is a number of a collector's generation.
type number struct {
	who, gen int
	seq      int64
}

// told is a second telling of a State: it keeps all that ever was taken, wanted, counted and decided.
type told struct {
	c         api.Conf
	now       int64
	gens      []int   // of each collector
	since     []int64 // of each collector
	taken     map[number]bool
	tops      map[[2]int]int64 // the greatest number that was taken, by collector and generation
	samples   []api.Sample
	standings []api.Standing
	wants     []int
	counts    []int // the first one too
	decisions []api.Decision
}

// begun is a second telling at that epoch, of which nothing is known but that, the generations, and since when they are.
func begun(c api.Conf, now int64, gen int, since int64) *told {
	o := &told{c: c, now: now, taken: map[number]bool{}, tops: map[[2]int]int64{}, standings: make([]api.Standing, c.N), counts: []int{c.Min}}
	for range c.N {
		o.gens, o.since = append(o.gens, gen), append(o.since, since)
	}
	return o
}

// top is the greatest number that was taken of a generation.
func (o *told) top(who, gen int) int64 { return o.tops[[2]int{who, gen}] }

// bits is which numbers were taken of a generation, from the top down.
func (o *told) bits(who, gen int) uint64 {
	bits, top := uint64(0), o.top(who, gen)
	for i := range o.c.Window {
		if o.taken[number{who, gen, top - int64(i)}] {
			bits |= 1 << i
		}
	}
	return bits
}

// sealing is the generation that seals m.
func sealing(m api.Msg) int {
	if m.Kind == api.KRotate {
		return m.Gen - 1
	}
	return m.Gen
}

// seals is whether the generation that seals m may do so now.
func (o *told) seals(m api.Msg) bool {
	has := o.gens[m.Who]
	if m.Kind == api.KRotate || m.Gen == has {
		return sealing(m) == has
	}
	return m.Gen == has-1 && o.now-o.since[m.Who] < int64(o.c.Grace)
}

// again is whether m's number was taken, or is too old.
func (o *told) again(m api.Msg) bool {
	return o.taken[number{m.Who, sealing(m), m.Seq}] || m.Seq <= o.top(m.Who, sealing(m))-int64(o.c.Window)
}

// room is the code of the table's room for what m says.
func (o *told) room(m api.Msg) int {
	switch {
	case m.Who >= o.c.N, m.Metric >= o.c.M:
		return api.ErrArg
	case m.Epoch < o.now, m.Epoch > o.now+int64(o.c.Fresh)-1:
		return api.ErrStale
	}
	for _, x := range o.samples {
		if x.Who == m.Who && x.Metric == m.Metric && x.Epoch == m.Epoch {
			return api.ErrTwice
		}
	}
	return api.OK
}

// gate is the code of the Gate for m.
func (o *told) gate(m api.Msg) int {
	switch {
	case m.Who >= o.c.N:
		return api.ErrWho
	case !o.seals(m):
		return api.ErrGen
	case o.again(m):
		return api.ErrReplay
	}
	return api.OK
}

// check is Check.
func (o *told) check(b []byte) (api.Msg, int) {
	m, head, tag, code := wire.Split(b)
	if code != api.OK {
		return api.Msg{}, code
	}
	switch {
	case m.Who >= o.c.N, o.standings[m.Who].Out:
		code = api.ErrWho
	case !o.seals(m):
		code = api.ErrGen
	case tag != mac.Tag(mac.Of(o.c.Seed, m.Who, sealing(m)), head):
		code = api.ErrAuth
	case o.again(m):
		code = api.ErrReplay
	case m.Epoch < o.now, m.Epoch >= o.now+int64(o.c.Fresh):
		code = api.ErrStale
	case m.Metric >= o.c.M:
		code = api.ErrArg
	case m.Kind == api.KSample:
		code = o.room(m)
	}
	if code != api.OK {
		return api.Msg{}, code
	}
	return m, api.OK
}

// from is whether n is from low to high.
func from(n, low, high int64) bool { return low <= n && n <= high }

// fair is whether m may be sent.
func fair(m api.Msg) bool {
	of := m.Kind == api.KSample && from(int64(m.Metric), 0, 3) && from(m.Value, 0, 1<<40) ||
		(m.Kind == api.KRotate || m.Kind == api.KBeat) && m.Metric == 0 && m.Value == 0
	return of && from(int64(m.Who), 0, 15) && from(int64(m.Gen), 0, 60000) && from(m.Seq, 1, 1<<40) && from(m.Epoch, 0, 1<<40)
}

// do is Do.
func (o *told) do(r api.Record) (api.Decision, int) {
	m, code := r.Msg, api.ErrArg
	switch {
	case r.Kind == api.RClose && m == api.Msg{}:
		if o.now == 1<<40 {
			return api.Decision{}, api.ErrArg
		}
		return o.end(), api.OK
	case !fair(m):
	case r.Kind == api.RAccept && m.Kind == api.KSample:
		if code = o.room(m); code == api.OK {
			code = o.gate(m)
		}
	case r.Kind == api.RAccept && m.Kind == api.KBeat, r.Kind == api.RRotate && m.Kind == api.KRotate:
		code = o.gate(m)
	}
	if code == api.OK {
		o.take(m)
	}
	return api.Decision{}, code
}

// take takes m.
func (o *told) take(m api.Msg) {
	o.taken[number{m.Who, sealing(m), m.Seq}] = true
	o.tops[[2]int{m.Who, sealing(m)}] = max(o.top(m.Who, sealing(m)), m.Seq)
	switch m.Kind {
	case api.KSample:
		o.samples = append(o.samples, api.Sample{Who: m.Who, Metric: m.Metric, Epoch: m.Epoch, Value: m.Value})
	case api.KRotate:
		o.gens[m.Who], o.since[m.Who] = m.Gen, o.now
	}
}

// rows are the samples of the epoch now by metrics, of those that are not out.
func (o *told) rows() [][]api.Sample {
	rows := make([][]api.Sample, o.c.M)
	for _, x := range o.samples {
		if x.Epoch == o.now && !o.standings[x.Who].Out {
			rows[x.Metric] = append(rows[x.Metric], x)
		}
	}
	return rows
}

// rising are a row's values by size.
func rising(row []api.Sample) []int64 {
	var l []int64
	for _, x := range row {
		l = append(l, x.Value)
	}
	slices.Sort(l)
	return l
}

// end closes the epoch.
func (o *told) end() api.Decision {
	d, rows := api.Decision{Epoch: o.now}, o.rows()
	for i, row := range rows {
		if len(row) < o.c.Quorum {
			d.Hold, d.Values = true, [4]int64{}
			break
		}
		l, sum := rising(row)[o.c.F:len(row)-o.c.F], int64(0)
		for _, v := range l {
			sum += v
		}
		d.Values[i] = sum / int64(len(l))
	}
	d.Replicas = o.counts[len(o.counts)-1]
	if !d.Hold {
		d.Replicas, d.Want = o.next(d.Values[:o.c.M])
	}
	o.counts = append(o.counts, d.Replicas)
	o.judge(rows)
	o.now++
	o.decisions = append(o.decisions, d)
	return d
}

// judge ends the epoch for all standings.
func (o *told) judge(rows [][]api.Sample) {
	heard, struck := map[int]bool{}, map[int]bool{}
	for _, row := range rows {
		if len(row) < o.c.Quorum {
			continue
		}
		median := rising(row)[(len(row)-1)/2]
		for _, x := range row {
			heard[x.Who] = true
			if x.Value > median+o.c.Far || x.Value < median-o.c.Far {
				struck[x.Who] = true
			}
		}
	}
	for who, is := range o.standings {
		switch {
		case is.Out:
			is.Clean++
			if is.Clean == o.c.Probe {
				is = api.Standing{}
			}
		case struck[who]:
			is.Strikes++
			if is.Strikes == o.c.Strikes {
				is = api.Standing{Out: true}
			}
		case heard[who]:
			is.Strikes = max(0, is.Strikes-1)
		}
		o.standings[who] = is
	}
}

// last is the last n of l, or all if they are fewer.
func last[T any](l []T, n int) []T { return l[max(0, len(l)-n):] }

// wanted is what one metric wants: by how far it is from its target, and by trying how many are enough.
func (o *told) wanted(count int, value, target int64) int {
	gap := max(value-target, target-value)
	if 1000*gap <= target*int64(o.c.Tol) {
		return count
	}
	return sort.Search(1000000, func(n int) bool { return int64(n)*target >= int64(count)*value })
}

// next is the count and the want behind an epoch's values.
func (o *told) next(values []int64) (int, int) {
	count, want := o.counts[len(o.counts)-1], 0
	for i, v := range values {
		want = max(want, o.wanted(count, v, o.c.Target[i]))
	}
	o.wants = append(o.wants, want)
	n := count
	if up := slices.Min(last(o.wants, o.c.CalmUp+1)); up > count {
		n = up
	}
	if down := slices.Max(last(o.wants, o.c.CalmDown+1)); down < count {
		n = down
	}
	base := last(o.counts, o.c.Period)[0]
	high := sort.Search(1<<20, func(n int) bool { return n-base >= o.c.PodsUp && 100*(n-base) >= base*o.c.PctUp })
	gone := sort.Search(base, func(n int) bool { return n >= o.c.PodsDown && 100*n >= base*o.c.PctDown })
	return min(max(n, base-gone, o.c.Min), high, o.c.Max), want
}

// open are the samples of epochs that are not closed, by Epoch, Metric and Who.
func (o *told) open() []api.Sample {
	l := slices.DeleteFunc(slices.Clone(o.samples), func(x api.Sample) bool { return x.Epoch < o.now })
	slices.SortFunc(l, func(a, b api.Sample) int {
		return cmp.Or(cmp.Compare(a.Epoch, b.Epoch), cmp.Compare(a.Metric, b.Metric), cmp.Compare(a.Who, b.Who))
	})
	return l
}

// sheet is Bytes as numbers, with how many more than there are of wants, counts, samples and decisions it tells.
type sheet struct {
	epoch      uint64
	collectors [][9]uint64
	wants      []uint64
	counts     []uint64
	count      uint64
	samples    [][4]uint64
	decisions  [][8]uint64
	more       [4]uint64
}

// sheet is what the State's Bytes are to tell.
func (o *told) sheet() sheet {
	h := sheet{epoch: uint64(o.now), count: uint64(o.counts[len(o.counts)-1])}
	for who, gen := range o.gens {
		is := o.standings[who]
		h.collectors = append(h.collectors, [9]uint64{
			uint64(gen), uint64(o.since[who]),
			uint64(o.top(who, gen)), o.bits(who, gen),
			uint64(o.top(who, gen-1)), o.bits(who, gen-1),
			uint64(is.Strikes), uint64(is.Clean), bit(is.Out),
		})
	}
	for _, n := range last(o.wants, max(o.c.CalmUp, o.c.CalmDown)+1) {
		h.wants = append(h.wants, uint64(n))
	}
	for _, n := range last(o.counts, o.c.Period) {
		h.counts = append(h.counts, uint64(n))
	}
	for _, x := range o.open() {
		h.samples = append(h.samples, [4]uint64{uint64(x.Epoch), uint64(x.Metric), uint64(x.Who), uint64(x.Value)})
	}
	for _, d := range last(o.decisions, 64) {
		h.decisions = append(h.decisions, [8]uint64{
			uint64(d.Epoch), uint64(d.Replicas), uint64(d.Want), bit(d.Hold),
			uint64(d.Values[0]), uint64(d.Values[1]), uint64(d.Values[2]), uint64(d.Values[3]),
		})
	}
	return h
}

// bit is 1 of what is so.
func bit(is bool) uint64 {
	if is {
		return 1
	}
	return 0
}

// numbers are the sheet's, in their order.
func (h sheet) numbers() []uint64 {
	l := []uint64{h.epoch}
	for _, x := range h.collectors {
		l = append(l, x[:]...)
	}
	l = append(append(l, uint64(len(h.wants))+h.more[0]), h.wants...)
	l = append(append(l, uint64(len(h.counts))+h.more[1]), h.counts...)
	l = append(l, h.count, uint64(len(h.samples))+h.more[2])
	for _, x := range h.samples {
		l = append(l, x[:]...)
	}
	l = append(l, uint64(len(h.decisions))+h.more[3])
	for _, x := range h.decisions {
		l = append(l, x[:]...)
	}
	return l
}

// bytes are the sheet's.
func (h sheet) bytes() []byte { return laid(h.numbers()) }

// laid are numbers as bytes.
func laid(l []uint64) []byte {
	var b []byte
	for _, n := range l {
		b = binary.LittleEndian.AppendUint64(b, n)
	}
	return b
}

// copied is a sheet whose lists are its own.
func (h sheet) copied() sheet {
	h.collectors, h.samples, h.decisions = slices.Clone(h.collectors), slices.Clone(h.samples), slices.Clone(h.decisions)
	h.wants, h.counts = slices.Clone(h.wants), slices.Clone(h.counts)
	return h
}

// cursor goes over numbers; behind the last it is short.
type cursor struct {
	l     []uint64
	short bool
}

// next is the next number.
func (k *cursor) next() uint64 {
	if len(k.l) == 0 {
		k.short = true
		return 0
	}
	n := k.l[0]
	k.l = k.l[1:]
	return n
}

// upTo is whether the next number is from low to high.
func (k *cursor) upTo(low, high uint64) bool {
	n := k.next()
	return low <= n && n <= high
}

// replay is whether a top and bits may be.
func (k *cursor) replay(window int) bool {
	top, bits := k.next(), k.next()
	ok := top <= 1<<40 && (bits%2 == 1) == (top > 0)
	for i := range uint64(64) {
		if bits>>i%2 == 1 && (i >= uint64(window) || i >= top) {
			ok = false
		}
	}
	return ok
}

// standing is whether strikes, clean and out may be.
func (k *cursor) standing(strikes, probe int) bool {
	a, b, out := k.next(), k.next(), k.next()
	if out == 1 {
		return a == 0 && b < uint64(probe)
	}
	return out == 0 && b == 0 && a < uint64(strikes)
}

// list is whether from least to most numbers, each from low to high, may be, and the last of them.
func (k *cursor) list(least, most int, low, high uint64) (bool, uint64) {
	n, end := k.next(), uint64(0)
	if n < uint64(least) || n > uint64(most) {
		return false, 0
	}
	ok := true
	for range n {
		end = k.next()
		ok = ok && low <= end && end <= high
	}
	return ok, end
}

// samples is whether the samples may be at that epoch.
func (k *cursor) samples(c api.Conf, now uint64) bool {
	n, ahead := k.next(), []uint64{}
	if n > uint64(c.N*c.M*c.Fresh) {
		return false
	}
	for range n {
		at := []uint64{k.next(), k.next(), k.next()}
		if at[0] < now || at[0]-now >= uint64(c.Fresh) || at[1] >= uint64(c.M) || at[2] >= uint64(c.N) || k.next() > 1<<40 || slices.Compare(ahead, at) >= 0 {
			return false
		}
		ahead = at
	}
	return true
}

// decisions is whether the decisions may be.
func (k *cursor) decisions(c api.Conf) bool {
	n := k.next()
	if n > 64 {
		return false
	}
	for range n {
		if !k.upTo(0, 1<<40) || !k.upTo(uint64(c.Min), uint64(c.Max)) || !k.upTo(0, 1000000) || !k.upTo(0, 1) {
			return false
		}
		for range 4 {
			if !k.upTo(0, 1<<40) {
				return false
			}
		}
	}
	return true
}

// stands is whether these are bytes of a State by c: rule by rule.
func stands(c api.Conf, b []byte) bool {
	var k cursor
	for i := 0; i+8 <= len(b); i += 8 {
		k.l = append(k.l, binary.LittleEndian.Uint64(b[i:]))
	}
	now := k.next()
	if len(b)%8 != 0 || now > 1<<40 {
		return false
	}
	for range c.N {
		if !k.upTo(0, 60000) || !k.upTo(0, 1<<40) || !k.replay(c.Window) || !k.replay(c.Window) || !k.standing(c.Strikes, c.Probe) {
			return false
		}
	}
	wants, _ := k.list(0, max(c.CalmUp, c.CalmDown)+1, 0, 1000000)
	counts, count := k.list(1, c.Period, uint64(c.Min), uint64(c.Max))
	return wants && counts && k.next() == count && k.samples(c, now) && k.decisions(c) && !k.short && len(k.l) == 0
}

// with is the default with some parts changed.
func with(change func(c *api.Conf)) api.Conf {
	c := conf.Default()
	change(&c)
	return c
}

// targets is c with as many metrics as there are targets here.
func targets(c api.Conf, l ...int64) api.Conf {
	c.M, c.Target = len(l), [4]int64{}
	copy(c.Target[:], l)
	return c
}

// thrownConf is a configuration that may be.
func thrownConf(dice *rand.Rand) api.Conf {
	c := conf.Default()
	c.N = 1 + dice.IntN(16)
	c.F = dice.IntN((c.N-1)/3 + 1)
	c.Quorum = 2*c.F + 1 + dice.IntN(c.N-2*c.F)
	var l []int64
	for range 1 + dice.IntN(4) {
		l = append(l, 1000)
	}
	c = targets(c, l...)
	c.Fresh, c.Grace, c.Window = 1+dice.IntN(8), 1+dice.IntN(5), 1+dice.IntN(64)
	c.Tol = dice.IntN(200)
	c.Min = 1 + dice.IntN(5)
	c.Max = c.Min + dice.IntN(300)
	c.CalmUp, c.CalmDown, c.Period = dice.IntN(4), dice.IntN(5), 1+dice.IntN(5)
	c.PodsUp, c.PctUp, c.PodsDown, c.PctDown = 1+dice.IntN(9), 1+dice.IntN(200), 1+dice.IntN(9), 1+dice.IntN(100)
	c.Far, c.Strikes, c.Probe = 50, 1+dice.IntN(3), 1+dice.IntN(4)
	c.Seed = dice.Uint64()
	return c
}

// thrownValue is a value near base, or farther from it than Far.
func thrownValue(dice *rand.Rand, c api.Conf, base int64, lies bool) int64 {
	if !lies {
		return base + dice.Int64N(c.Far/2+1)
	}
	return []int64{0, base + 2*c.Far, base + 60, max(0, base-2*c.Far), dice.Int64N(5000), 1 << 40}[dice.IntN(6)]
}

// of is a message of that kind by who that the telling would take now, as long as the number is new.
func (o *told) of(kind, who int, seq int64) api.Msg {
	m := api.Msg{Kind: kind, Who: who, Gen: o.gens[who], Seq: seq, Epoch: o.now}
	if kind == api.KRotate {
		m.Gen++
	}
	return m
}

// thrown is a message that is, or nearly is, to be taken.
func (o *told) thrown(dice *rand.Rand) api.Msg {
	who := dice.IntN(o.c.N)
	kind := []int{api.KSample, api.KSample, api.KSample, api.KBeat, api.KRotate}[dice.IntN(5)]
	m := o.of(kind, who, o.top(who, o.gens[who])+dice.Int64N(4)-1)
	if m.Kind == api.KSample {
		m.Metric, m.Value = dice.IntN(o.c.M), thrownValue(dice, o.c, 1000, dice.IntN(2) == 0)
		m.Epoch += dice.Int64N(int64(o.c.Fresh))
	}
	switch dice.IntN(20) {
	case 0:
		m.Who = dice.IntN(17)
	case 1, 2:
		m.Gen--
	case 3:
		m.Gen++
	case 4:
		m.Seq -= dice.Int64N(70)
	case 5:
		m.Epoch += dice.Int64N(12) - 3
	case 6, 7:
		m.Metric += dice.IntN(3)
	case 8:
		m.Value = wild()[dice.IntN(len(wild()))]
	case 9:
		m.Kind = dice.IntN(5)
	case 10, 11, 12: // a place of which there is a sample
		if l := o.open(); len(l) > 0 {
			x := l[dice.IntN(len(l))]
			m = o.of(api.KSample, x.Who, o.top(x.Who, o.gens[x.Who])+1)
			m.Metric, m.Epoch = x.Metric, x.Epoch
		}
	}
	return m
}

// wild are numbers that no value, number or epoch may be.
func wild() []int64 {
	return []int64{-1, -2, -256, -1 << 31, -1 << 32, -1<<32 + 5, -1 << 40, -1 << 62, math.MinInt64, math.MinInt64 + 1, 1<<40 + 1, 1<<40 + 2, 1 << 41, 1 << 62, math.MaxInt64 - 1, math.MaxInt64}
}

// sealed is m in an envelope by the key of that generation of who.
func sealed(t *testing.T, c api.Conf, who, gen int, m api.Msg) []byte {
	t.Helper()
	b, code := wire.Seal(mac.Of(c.Seed, who, gen), m)
	if code != api.OK {
		t.Fatalf("%+v can't be sealed", m)
	}
	return b
}

// own is m in an envelope by its own key.
func own(t *testing.T, c api.Conf, m api.Msg) []byte {
	t.Helper()
	return sealed(t, c, m.Who, sealing(m), m)
}
