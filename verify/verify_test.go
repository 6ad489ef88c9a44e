package verify

import (
	"bytes"
	"encoding/hex"
	"math"
	"math/big"
	"math/rand/v2"
	"slices"
	"sync"
	"testing"

	"quorumite/api"
	"quorumite/conf"
	"quorumite/mac"
	"quorumite/replay"
	"quorumite/seal"
	"quorumite/wire"
)

const (
	seed = 7
	last = 1 << 40 // the greatest number, epoch and value
)

// ends are numbers at the ends of their kind, and where a smaller kind would wrap round to what may be.
func ends() []int64 {
	return []int64{math.MinInt64, math.MinInt64 + 1, math.MinInt64 + 8, -last, -1 << 32, -256, -16, -2, -1, last + 1, last + 2, 1 << 48, 1<<62 + 1, math.MaxInt64 - 8, math.MaxInt64 - 1, math.MaxInt64}
}

// setup is n collectors of whom none may lie, with m metrics: fresh 3, grace 5, window 8.
func setup(n, m int) api.Conf {
	c := conf.Default()
	c.N, c.F, c.Quorum, c.M, c.Seed = n, 0, 1, m, seed
	c.Fresh, c.Grace, c.Window = 3, 5, 8
	for i := range c.Target {
		c.Target[i] = 0
		if i < m {
			c.Target[i] = 1000
		}
	}
	return c
}

// made is a Gate of what is known to be let.
func made(t *testing.T, c api.Conf) *Gate {
	t.Helper()
	g := New(c)
	if g == nil {
		t.Fatalf("New of %+v is nil", c)
	}
	return g
}

// sets asks for the code 0 of what brings a Gate where a test begins.
func sets(t *testing.T, codes ...int) {
	t.Helper()
	for _, code := range codes {
		if code != api.OK {
			t.Fatalf("the test can't begin: %v", codes)
		}
	}
}

// midway is a Gate at which collector 2 stands at generation 3 since epoch 10, with number 20 taken of it, and 30 of the one ahead.
func midway(t *testing.T) *Gate {
	t.Helper()
	g := made(t, setup(4, 2))
	sets(t, g.Ring().Set(2, 3, 10), g.Replay(2).Set(20, 1), g.Old(2).Set(30, 1))
	return g
}

// by is m sealed by the key of that collector's generation.
func by(t *testing.T, of uint64, who, gen int, m api.Msg) []byte {
	t.Helper()
	e, code := wire.Seal(mac.Of(of, who, gen), m)
	if code != api.OK {
		t.Fatalf("%+v can't be sealed", m)
	}
	return e
}

// sealing is the generation by whose key m's own collector seals it.
func sealing(m api.Msg) int {
	if m.Kind == api.KRotate {
		return m.Gen - 1
	}
	return m.Gen
}

// own is m sealed by its own key.
func own(t *testing.T, m api.Msg) []byte {
	t.Helper()
	return by(t, seed, m.Who, sealing(m), m)
}

// part is all that is to be seen of a collector at a Gate.
type part struct {
	gen           int
	since         int64
	now, old      *replay.Replay
	top, oldTop   int64
	bits, oldBits uint64
}

// whole is all that is to be seen of a Gate.
func whole(g *Gate) []part {
	l := make([]part, 17)
	for who := range l {
		now, old := g.Replay(who), g.Old(who)
		l[who] = part{g.Ring().Gen(who), g.Ring().Since(who), now, old, now.Top(), old.Top(), now.Bits(), old.Bits()}
	}
	return l
}

// checks holds Check, asked twice, against a code, and its message against what stands in b; and that nothing changes by it.
func checks(t *testing.T, g *Gate, b []byte, now int64, out func(int) bool, want int) {
	t.Helper()
	m, were, was := api.Msg{}, bytes.Clone(b), whole(g)
	if want == api.OK {
		m, _, _, _ = wire.Split(b)
	}
	for range 2 {
		if got, code := g.Check(b, now, out); got != m || code != want {
			t.Errorf("Check of %x at %d is %+v, %d, not %+v, %d", b, now, got, code, m, want)
		}
	}
	if !slices.Equal(whole(g), was) || !bytes.Equal(b, were) {
		t.Errorf("Check of %x at %d changed something", were, now)
	}
}

// takes holds Take against a code, and all of the Gate behind it against what the chapter tells: nothing changes by what is refused.
func takes(t *testing.T, g *Gate, m api.Msg, now int64, want int) {
	t.Helper()
	was := whole(g)
	if code := g.Take(m, now); code != want {
		t.Errorf("Take of %+v at %d is %d, not %d", m, now, code, want)
		return
	}
	is := whole(g)
	if want == api.OK {
		behind(t, &was[m.Who], is[m.Who], g.window, m, now)
	}
	if !slices.Equal(is, was) {
		t.Errorf("behind Take of %+v at %d: %+v, not %+v", m, now, is, was)
	}
}

// behind brings p where it stands behind m, if is, which stands there, has a new Replay wherever there is to be one.
func behind(t *testing.T, p *part, is part, window int, m api.Msg, now int64) {
	t.Helper()
	top, bits := &p.top, &p.bits
	if sealing(m) != p.gen {
		top, bits = &p.oldTop, &p.oldBits
	}
	r := replay.New(window)
	sets(t, r.Set(*top, *bits), r.Take(m.Seq))
	*top, *bits = r.Top(), r.Bits()
	if m.Kind == api.KRotate {
		if is.now == nil || is.now == p.now || is.now == p.old {
			t.Errorf("behind %+v there is no new Replay", m)
		}
		*p = part{gen: m.Gen, since: now, now: is.now, old: p.now, oldTop: p.top, oldBits: p.bits}
	}
}

// goes checks and takes an envelope of m by its own key, which must go.
func goes(t *testing.T, g *Gate, m api.Msg, now int64) {
	t.Helper()
	checks(t, g, own(t, m), now, nil, api.OK)
	takes(t, g, m, now, api.OK)
}

// stops asks that an envelope of m by its own key is neither checked nor taken.
func stops(t *testing.T, g *Gate, m api.Msg, now int64, code int) {
	t.Helper()
	checks(t, g, own(t, m), now, nil, code)
	takes(t, g, m, now, code)
}

func TestNewAtTheEdges(t *testing.T) { // 8.1: nil just of what conf does not let
	wrong := []func(c *api.Conf){
		func(c *api.Conf) { *c = api.Conf{} },
		func(c *api.Conf) { c.N = 0 },
		func(c *api.Conf) { c.N = 17 },
		func(c *api.Conf) { c.F = 2 },
		func(c *api.Conf) { c.M = 0 },
		func(c *api.Conf) { c.M = 5 },
		func(c *api.Conf) { c.Quorum = 2 },
		func(c *api.Conf) { c.Fresh = 0 },
		func(c *api.Conf) { c.Fresh = 9 },
		func(c *api.Conf) { c.Grace = 0 },
		func(c *api.Conf) { c.Grace = 101 },
		func(c *api.Conf) { c.Window = 0 },
		func(c *api.Conf) { c.Window = 65 },
		func(c *api.Conf) { c.Target[0] = 0 },
		func(c *api.Conf) { c.Target[1] = 1 },
		func(c *api.Conf) { c.Tol = -1 },
		func(c *api.Conf) { c.Period = 0 },
		func(c *api.Conf) { c.Sectors = math.MaxInt },
	}
	for i, change := range wrong {
		c := conf.Default()
		change(&c)
		if New(c) != nil {
			t.Errorf("New of wrong configuration %d is not nil", i)
		}
	}
	made(t, conf.Default())
	for n := 1; n <= 16; n++ {
		for m := 1; m <= 4; m++ {
			made(t, setup(n, m))
		}
	}
}

func TestNewBegins(t *testing.T) { // 8.1: each collector at generation 0 since 0, with Replays of its own of which nothing was taken
	for n := 1; n <= 16; n++ {
		g, seen := made(t, setup(n, 1)), map[*replay.Replay]int{}
		for who, p := range whole(g) {
			want := part{now: p.now, old: p.old}
			if who >= n {
				want = part{gen: -1, since: -1}
			}
			if p != want || (p.now == nil) != (who >= n) || (p.old == nil) != (who >= n) {
				t.Errorf("of %d collectors, %d stands at %+v", n, who, p)
			}
			seen[p.now]++
			seen[p.old]++
		}
		delete(seen, nil)
		if len(seen) != 2*n {
			t.Errorf("%d collectors have %d Replays", n, len(seen))
		}
	}
}

func TestNewGivesEachPartItsNumber(t *testing.T) { // 8.1: the Ring's seed and grace, each Replay's window
	for _, n := range []int{1, 2, 8, 32, 63, 64} {
		c := setup(3, 1)
		c.Seed, c.Grace, c.Window = uint64(n)<<58, n, n
		g := made(t, c)
		sets(t, g.Ring().Rotate(1, 1, 50))
		if k, code := g.Ring().Key(1, 0, 49+int64(n)); k != mac.Of(c.Seed, 1, 0) || code != api.OK {
			t.Errorf("of a grace of %d the key is %x, %d", n, k, code)
		}
		if _, code := g.Ring().Key(1, 0, 50+int64(n)); code != api.ErrGen {
			t.Errorf("of a grace of %d a key is there too long", n)
		}
		sets(t, g.Take(api.Msg{Kind: api.KRotate, Who: 2, Gen: 1, Seq: 1}, 0))
		for who := range 3 { // 2 has a Replay that a rotation made
			for _, r := range []*replay.Replay{g.Replay(who), g.Old(who)} {
				sets(t, r.Take(1000))
				if r.May(1000-int64(n)) || n > 1 && !r.May(1001-int64(n)) {
					t.Errorf("the window of %d is not %d", who, n)
				}
			}
		}
	}
}

func TestExample(t *testing.T) { // the chapter's
	checks(t, made(t, conf.Default()), nil, 0, nil, api.ErrBytes)
}

// elsewhere are envelopes that another program, written from the chapters, seals for collector 3 of the seed 1.
func elsewhere() []string {
	return []string{
		"010103000000000001000000000000000000000000000000dc050000000000009b49056d97e9e710bceab7b480b6514c",
		"0103030000000000020000000000000000000000000000000000000000000000e17daaf4df138b46fb7e63042fd4fd25",
		"0101030000000000090000000000000001000000000000000000000000010000f64e8bf9d5ba674d16e8a72fd602050c",
		"010103000000000004000000000000000100000000000000070000000000000085ebb96d9efeb6067a46c631947ab690",
		"0102030001000000050000000000000001000000000000000000000000000000dfd31188176798949cab1338be1e9970", // from here on at generation 1
		"0101030001000000010000000000000001000000000000000800000000000000305017a05618e9750995236b9bf9e7fc",
		"0101030000000000060000000000000002000000000000000900000000000000aa3e7612dee224e0acc109ac0512e8da", // of generation 0, within its grace
		"01020300020000000000000000010000020000000000000000000000000000001e6c5ddd33b2d438630139b49d9953e4", // from here on at generation 2
		"01030300020000000300000000000000030000000000000000000000000000008282c23ce3bbd51a4d74291ecdf4760a",
		"0101030001000000ffffffffff00000003000000000000000100000000000000c1d103c0d447c0eaaccfcb806545855d", // of generation 1, below its rotation's number
	}
}

func TestAsMadeElsewhere(t *testing.T) { // 8.1, 8.2: another program's envelopes are taken, and each but once
	g, now := made(t, conf.Default()), []int64{0, 0, 0, 1, 1, 1, 2, 2, 2, 3}
	for i, text := range elsewhere() {
		b, _ := hex.DecodeString(text)
		checks(t, g, b, now[i], nil, api.OK)
		m, _ := g.Check(b, now[i], nil)
		takes(t, g, m, now[i], api.OK)
		again := api.ErrReplay
		if m.Kind == api.KRotate { // told a second time it is no longer the next one
			again = api.ErrGen
		}
		checks(t, g, b, now[i], nil, again)
		takes(t, g, m, now[i], again)
	}
	if p := whole(g)[3]; p.gen != 2 || p.since != 2 || p.top != 3 || p.bits != 1 || p.oldTop != last || p.oldBits != 3 {
		t.Errorf("it stands at %+v", p)
	}
}

// trial is an envelope under way to a Gate, and what is done to it.
type trial struct {
	m     api.Msg
	now   int64
	out   func(int) bool
	spoil []func(b []byte) []byte
	code  int // of the first fault
}

// fault is the code of what is wrong, and the ways to make it so.
type fault struct {
	code int
	ways []func(x *trial)
}

// each brings x, with none of the faults or one way of each, all with all, to the end.
func each(x trial, faults []fault, end func(x trial)) {
	if len(faults) == 0 {
		end(x)
		return
	}
	each(x, faults[1:], end)
	for _, way := range faults[0].ways {
		y := x
		y.spoil = slices.Clone(x.spoil)
		way(&y)
		if y.code == api.OK {
			y.code = faults[0].code
		}
		each(y, faults[1:], end)
	}
}

// numbers are the ways to set a part of the message to one of the numbers.
func numbers[T any](part func(m *api.Msg) *T, l ...T) []func(x *trial) {
	var ways []func(x *trial)
	for _, n := range l {
		ways = append(ways, func(x *trial) { *part(&x.m) = n })
	}
	return ways
}

// spoils are the ways to change the envelope's bytes.
func spoils(l ...func(b []byte) []byte) []func(x *trial) {
	var ways []func(x *trial)
	for _, f := range l {
		ways = append(ways, func(x *trial) { x.spoil = append(x.spoil, f) })
	}
	return ways
}

// turned is b with bits of the byte at i turned.
func turned(i int, bits byte) func(b []byte) []byte {
	return func(b []byte) []byte {
		b[i] ^= bits
		return b
	}
}

// parts of a message.
func whose(m *api.Msg) *int   { return &m.Who }
func genOf(m *api.Msg) *int   { return &m.Gen }
func seqOf(m *api.Msg) *int64 { return &m.Seq }
func when(m *api.Msg) *int64  { return &m.Epoch }
func what(m *api.Msg) *int    { return &m.Metric }
func kind(m *api.Msg) *int    { return &m.Kind }
func value(m *api.Msg) *int64 { return &m.Value }

// base is a message that midway lets at 12, the generations that it does not, and the numbers.
type base struct {
	m    api.Msg
	gens []int
	seqs []int64
}

// bases are one of each kind, and of both generations.
func bases() []base {
	gens, turns := []int{4, 1, 0, 60000}, []int{3, 5, 2, 1, 0, 60000}
	now, old := []int64{20, 12, 1}, []int64{30, 22, 1}
	return []base{
		{api.Msg{Kind: api.KSample, Who: 2, Gen: 3, Seq: 13, Epoch: 12, Metric: 1, Value: 9}, gens, now},
		{api.Msg{Kind: api.KSample, Who: 2, Gen: 2, Seq: 23, Epoch: 14, Metric: 1, Value: 9}, gens, old},
		{api.Msg{Kind: api.KBeat, Who: 2, Gen: 3, Seq: last, Epoch: 13}, gens, now},
		{api.Msg{Kind: api.KBeat, Who: 2, Gen: 2, Seq: 31, Epoch: 12}, gens, old},
		{api.Msg{Kind: api.KRotate, Who: 2, Gen: 4, Seq: 21, Epoch: 14}, turns, now},
	}
}

func TestTheFirstFaultIsTold(t *testing.T) { // 8.1: all faults, each in several ways, all with all
	g := midway(t)
	for _, x := range bases() {
		faults := []fault{
			{api.ErrBytes, spoils(
				func(b []byte) []byte { return b[:47] },
				func(b []byte) []byte { return append(b, 0) },
				turned(0, 3),
				turned(1, 4),
				turned(15, 128),
			)},
			{api.ErrWho, append(numbers(whose, 4, 15), func(x *trial) { x.out = func(int) bool { return true } })},
			{api.ErrGen, numbers(genOf, x.gens...)},
			{api.ErrAuth, spoils(turned(32, 1), turned(47, 128))},
			{api.ErrReplay, numbers(seqOf, x.seqs...)},
			{api.ErrStale, numbers(when, 11, 15, 0, last)},
		}
		if x.m.Kind == api.KSample {
			faults = append(faults, fault{api.ErrArg, numbers(what, 2, 3)})
		}
		many := 0
		each(trial{m: x.m, now: 12}, faults, func(x trial) {
			b := own(t, x.m)
			for _, f := range slices.Backward(x.spoil) { // what makes them no envelope comes last
				b = f(b)
			}
			checks(t, g, b, x.now, x.out, x.code)
			many++
		})
		if many < 7000 {
			t.Errorf("only %d ways were tried", many)
		}
	}
}

func TestTheFirstFaultOfTake(t *testing.T) { // 8.2: likewise, and nothing changes
	for _, x := range bases() {
		faults := []fault{
			{api.ErrArg, slices.Concat(
				numbers(kind, 0, 4),
				numbers(value, -1, last+1),
				numbers(seqOf, 0, last+1),
				[]func(x *trial){func(x *trial) { x.now = -1 }, func(x *trial) { x.now = last + 1 }},
			)},
			{api.ErrWho, numbers(whose, 4, 15)},
			{api.ErrGen, numbers(genOf, x.gens...)},
			{api.ErrReplay, numbers(seqOf, x.seqs...)},
		}
		if x.m.Kind != api.KRotate { // by which a rotation's number would only be another one that is wrong
			faults[0].ways = append(faults[0].ways, numbers(genOf, -1, 60001)...)
		}
		each(trial{m: x.m, now: 12}, faults, func(x trial) {
			if x.code == api.ErrArg && wire.May(x.m) && x.now == 12 {
				return // a later fault put right what was wrong
			}
			takes(t, midway(t), x.m, x.now, x.code)
		})
	}
}

func TestBytesOfAnyLength(t *testing.T) { // 8.1: whatever else would be wrong with them
	g, e := made(t, setup(4, 2)), own(t, api.Msg{Kind: api.KSample, Who: 3, Seq: 1})
	all := append(bytes.Clone(e), make([]byte, 100)...)
	for n := range all {
		want := api.ErrBytes
		if n == 48 {
			want = api.OK
		}
		checks(t, g, all[:n], 0, nil, want)
		checks(t, g, make([]byte, n), -1, func(int) bool { return true }, api.ErrBytes)
	}
}

func TestWhoAtTheEdges(t *testing.T) { // 8.1, 8.2: N - 1 is a collector, N is none
	for n := 1; n <= 16; n++ {
		g := made(t, setup(n, 1))
		for who := range 16 {
			if who >= n {
				stops(t, g, api.Msg{Kind: api.KBeat, Who: who, Seq: 1}, 0, api.ErrWho)
				continue
			}
			goes(t, g, api.Msg{Kind: api.KBeat, Who: who, Seq: 1}, 0)
		}
		for _, who := range append(ends(), 16, 17, 256, 1<<32) {
			takes(t, g, api.Msg{Kind: api.KBeat, Who: int(who), Seq: 2}, 0, api.ErrArg)
			if g.Replay(int(who)) != nil || g.Old(int(who)) != nil {
				t.Errorf("of %d collectors %d has a Replay", n, who)
			}
		}
	}
}

func TestWhoIsOut(t *testing.T) { // 8.1: just those of whom out tells it
	g := made(t, setup(16, 1))
	for who := range 16 {
		e := own(t, api.Msg{Kind: api.KBeat, Who: who, Seq: 1})
		checks(t, g, e, 0, func(int) bool { return false }, api.OK)
		checks(t, g, e, 0, func(int) bool { return true }, api.ErrWho)
		checks(t, g, e, 0, func(x int) bool { return x == who }, api.ErrWho)
		checks(t, g, e, 0, func(x int) bool { return x != who }, api.OK)
	}
}

func TestWhomOutIsAsked(t *testing.T) { // 8.1: of the envelope's collector, and of no number that is none
	g := midway(t)
	var asked []int
	out := func(who int) bool {
		asked = append(asked, who)
		return false
	}
	g.Check(nil, 12, out)
	g.Check(own(t, api.Msg{Kind: api.KBeat, Who: 4, Seq: 1}), 12, out)
	if len(asked) != 0 {
		t.Errorf("it was asked of %v", asked)
	}
	for who := range 4 {
		g.Check(own(t, api.Msg{Kind: api.KBeat, Who: who, Gen: 60000, Seq: 1}), 12, out)
	}
	if !slices.Equal(asked, []int{0, 1, 2, 3}) {
		t.Errorf("it was asked of %v", asked)
	}
}

func TestOutThatPanics(t *testing.T) { // rule 1 of the document: whatever is handed in
	g, e := midway(t), own(t, api.Msg{Kind: api.KBeat, Who: 2, Gen: 3, Seq: 21, Epoch: 12})
	checks(t, g, e, 12, func(int) bool { panic("out") }, api.ErrWho)
	checks(t, g, e, 12, func(int) bool { var l []bool; return l[0] }, api.ErrWho)
	checks(t, g, e, 12, func(int) bool { panic(nil) }, api.ErrWho)
	checks(t, g, e[:1], 12, func(int) bool { panic("out") }, api.ErrBytes)
	checks(t, g, e, 12, nil, api.OK)
}

func TestTheGenerationsThatSeal(t *testing.T) { // 8.1, 8.2: the one that is now, the one ahead of it within its grace, and for a rotation just the one that is now
	const since, grace = 100, 5
	for _, has := range []int{0, 1, 2, 7, 59999, 60000} {
		for _, now := range []int64{0, since - 1, since, since + grace - 1, since + grace, last} {
			for _, gen := range []int{0, 1, has - 3, has - 2, has - 1, has, has + 1, has + 2, 60000} {
				for kind := api.KSample; kind <= api.KBeat; kind++ {
					if gen < 0 || gen > 60000 {
						continue
					}
					g := made(t, setup(2, 1))
					sets(t, g.Ring().Set(1, has, since))
					m := api.Msg{Kind: kind, Who: 1, Gen: gen, Seq: 1, Epoch: now}
					if gen == has+1 && kind == api.KRotate || kind != api.KRotate && (gen == has || gen == has-1 && now < since+grace) {
						goes(t, g, m, now)
					} else {
						stops(t, g, m, now, api.ErrGen)
					}
				}
			}
		}
	}
}

func TestTheGrace(t *testing.T) { // 8.1, 8.2: the old key seals for just so many epochs
	for grace := 1; grace <= 100; grace++ {
		c := setup(1, 1)
		c.Grace = grace
		g := made(t, c)
		goes(t, g, api.Msg{Kind: api.KRotate, Gen: 1, Seq: 1, Epoch: 40}, 40)
		for now := int64(40); now < 160; now++ {
			m := api.Msg{Kind: api.KBeat, Seq: now, Epoch: now}
			if now < 40+int64(grace) {
				goes(t, g, m, now)
			} else {
				stops(t, g, m, now, api.ErrGen)
			}
		}
	}
}

func TestTheGraceStartsWhenItIsTaken(t *testing.T) { // 8.2: not at the epoch that the rotation tells
	g := made(t, setup(1, 1))
	goes(t, g, api.Msg{Kind: api.KRotate, Gen: 1, Seq: 1, Epoch: 42}, 40)
	goes(t, g, api.Msg{Kind: api.KBeat, Seq: 2, Epoch: 44}, 44)
	stops(t, g, api.Msg{Kind: api.KBeat, Seq: 3, Epoch: 45}, 45, api.ErrGen)
}

func TestOfEarlierAndLaterThanAnyEpoch(t *testing.T) { // 8.1: Check asks only what is named: such a now is told as stale or retired, by its place
	g := midway(t)
	for _, now := range ends() {
		fresh, old := own(t, api.Msg{Kind: api.KBeat, Who: 2, Gen: 3, Seq: 21}), own(t, api.Msg{Kind: api.KBeat, Who: 2, Gen: 2, Seq: 31})
		want, of := api.ErrStale, api.ErrStale
		if now == -1 || now == -2 { // epoch 0 is less than 3 ahead
			want, of = api.OK, api.OK
		}
		if now > 0 {
			of = api.ErrGen
		}
		checks(t, g, fresh, now, nil, want)
		checks(t, g, old, now, nil, of)
	}
}

func TestByItsOwnKeyAlone(t *testing.T) { // 8.1, 8.3
	g := made(t, setup(16, 1))
	for who := range 16 {
		sets(t, g.Ring().Set(who, 3, 10))
	}
	for _, gen := range []int{2, 3, 4} {
		m := api.Msg{Kind: api.KBeat, Who: 6, Gen: gen, Seq: 1, Epoch: 10}
		if gen == 4 { // both keys are there, but a rotation is sealed by the one that it ends
			m.Kind = api.KRotate
		}
		for who := range 16 {
			for of := range 8 {
				want := api.ErrAuth
				if who == 6 && of == sealing(m) {
					want = api.OK
				}
				checks(t, g, by(t, seed, who, of, m), 10, nil, want)
				checks(t, g, by(t, seed+1, who, of, m), 10, nil, api.ErrAuth)
			}
		}
	}
}

func TestOnEachTurnedBit(t *testing.T) { // 8.3: of each byte, and a tag's are told as such
	g := midway(t)
	for _, x := range bases() {
		e := own(t, x.m)
		for i := range 8 * len(e) {
			b := bytes.Clone(e)
			b[i/8] ^= 1 << (i % 8)
			if i >= 256 {
				checks(t, g, b, 12, nil, api.ErrAuth)
			}
			if _, code := g.Check(b, 12, nil); code == api.OK {
				t.Errorf("%x is let", b)
			}
		}
	}
}

func TestAnotherTag(t *testing.T) { // 8.1: of another message by the same key, of the first half alone, of nothing but zeros
	g, m := made(t, setup(4, 2)), api.Msg{Kind: api.KSample, Who: 1, Seq: 1, Value: 5}
	e := own(t, m)
	m.Value = 6
	other := own(t, m)
	for _, tag := range [][]byte{other[32:], make([]byte, 16), slices.Concat(e[32:40], other[40:]), slices.Concat(other[32:40], e[40:]), slices.Concat(e[40:], e[32:40])} {
		checks(t, g, slices.Concat(e[:32], tag), 0, nil, api.ErrAuth)
	}
	checks(t, g, slices.Concat(e[:32], e[32:]), 0, nil, api.OK)
}

func TestTheWindow(t *testing.T) { // 8.1, 8.2: the last number that is let, and the next one, of both generations
	for window := 1; window <= 64; window++ {
		for _, top := range []int64{1, int64(window), 1000, last} {
			for gen := range 2 {
				c := setup(3, 1)
				c.Window = window
				g := made(t, c)
				sets(t, g.Ring().Set(1, 1, 0))
				goes(t, g, api.Msg{Kind: api.KBeat, Who: 1, Gen: gen, Seq: top}, 0)
				below := []int64{0, 1, int64(window) - 1, int64(window), int64(window) + 1}
				slices.Sort(below)
				for _, d := range slices.Compact(below) {
					m := api.Msg{Kind: api.KBeat, Who: 1, Gen: gen, Seq: top - d}
					if m.Seq < 1 {
						continue
					}
					if d > 0 && d < int64(window) {
						goes(t, g, m, 0)
					}
					stops(t, g, m, 0, api.ErrReplay)
				}
			}
		}
	}
}

func TestEachGenerationHasItsNumbers(t *testing.T) { // 8.1, 8.2: what was taken of one is not taken of the other
	g := midway(t)
	goes(t, g, api.Msg{Kind: api.KBeat, Who: 2, Gen: 3, Seq: 30, Epoch: 12}, 12)
	goes(t, g, api.Msg{Kind: api.KBeat, Who: 2, Gen: 2, Seq: 25, Epoch: 12}, 12)
	goes(t, g, api.Msg{Kind: api.KBeat, Who: 2, Gen: 3, Seq: 25, Epoch: 12}, 12)
	goes(t, g, api.Msg{Kind: api.KBeat, Who: 2, Gen: 2, Seq: 40, Epoch: 12}, 12)
	stops(t, g, api.Msg{Kind: api.KBeat, Who: 2, Gen: 2, Seq: 30, Epoch: 12}, 12, api.ErrReplay)
	goes(t, g, api.Msg{Kind: api.KBeat, Who: 2, Gen: 3, Seq: 40, Epoch: 12}, 12)
	goes(t, g, api.Msg{Kind: api.KRotate, Who: 2, Gen: 4, Seq: 39, Epoch: 12}, 12) // of generation 3
	stops(t, g, api.Msg{Kind: api.KBeat, Who: 2, Gen: 3, Seq: 39, Epoch: 12}, 12, api.ErrReplay)
	goes(t, g, api.Msg{Kind: api.KBeat, Who: 2, Gen: 4, Seq: 39, Epoch: 12}, 12)
}

func TestInTime(t *testing.T) { // 8.1, 8.3: from now on, and below now and Fresh
	for fresh := 1; fresh <= 8; fresh++ {
		c := setup(1, 1)
		c.Fresh = fresh
		g := made(t, c)
		for _, now := range append(ends(), 0, 1, 2, 100, last/2, last-9, last-8, last-7, last-1, last) {
			end := new(big.Int).Add(big.NewInt(now), big.NewInt(int64(fresh)))
			epochs := []int64{0, 1, last / 2, last}
			for d := int64(-2); d <= int64(fresh)+2; d++ {
				epochs = append(epochs, now+d)
			}
			for _, epoch := range epochs {
				if epoch < 0 || epoch > last {
					continue
				}
				want := api.OK
				if big.NewInt(epoch).Cmp(big.NewInt(now)) < 0 || big.NewInt(epoch).Cmp(end) >= 0 {
					want = api.ErrStale
				}
				for kind := api.KSample; kind <= api.KBeat; kind++ {
					m := api.Msg{Kind: kind, Seq: 1, Epoch: epoch}
					if kind == api.KRotate {
						m.Gen = 1
					}
					checks(t, g, own(t, m), now, nil, want)
				}
			}
		}
	}
}

func TestMetricAtTheEdges(t *testing.T) { // 8.1: M - 1 is one, M is none
	for metrics := 1; metrics <= 4; metrics++ {
		g := made(t, setup(2, metrics))
		for metric := range 4 {
			want := api.OK
			if metric >= metrics {
				want = api.ErrArg
			}
			checks(t, g, own(t, api.Msg{Kind: api.KSample, Who: 1, Seq: 1, Metric: metric}), 0, nil, want)
		}
	}
}

func TestTakeAtTheEdges(t *testing.T) { // 8.2: of what wire lets, at each epoch, and of nothing else
	for _, n := range append(ends(), 0, 1, 2, 3, 4, 15, 16, 59999, 60000, 60001, last-1, last) {
		for i, change := range []func(m *api.Msg){
			func(m *api.Msg) { m.Kind = int(n) },
			func(m *api.Msg) { m.Gen = int(n) },
			func(m *api.Msg) { m.Seq = n },
			func(m *api.Msg) { m.Epoch = n },
			func(m *api.Msg) { m.Value = n },
			func(m *api.Msg) { m.Metric = int(n) },
		} {
			g, m := made(t, setup(4, 4)), api.Msg{Kind: api.KSample, Who: 3, Seq: 1}
			change(&m)
			want := api.OK
			if !wire.May(m) {
				want = api.ErrArg
			} else if i == 0 && m.Kind == api.KRotate || m.Gen != 0 {
				want = api.ErrGen
			}
			takes(t, g, m, 0, want)
		}
		for _, kind := range []int{api.KSample, api.KBeat, api.KRotate} {
			g, m, want := made(t, setup(4, 4)), api.Msg{Kind: kind, Who: 3, Seq: 1}, api.OK
			if kind == api.KRotate {
				m.Gen = 1
			}
			if n < 0 || n > last {
				want = api.ErrArg
			}
			takes(t, g, m, n, want)
		}
	}
}

func TestTakeAsksNothingElse(t *testing.T) { // 8.2: not the epoch, nor the metric: who takes has checked
	for _, now := range []int64{0, 12, 14, last} {
		for _, epoch := range []int64{0, 11, 12, 15, last} {
			for metric := range 4 {
				takes(t, midway(t), api.Msg{Kind: api.KSample, Who: 2, Gen: 3, Seq: 21, Epoch: epoch, Metric: metric, Value: last}, now, api.OK)
			}
			takes(t, midway(t), api.Msg{Kind: api.KRotate, Who: 2, Gen: 4, Seq: 21, Epoch: epoch}, now, api.OK)
		}
	}
}

func TestARotation(t *testing.T) { // 8.2: Old is the Replay that it had, and Replay a new one
	g := made(t, setup(3, 1))
	for gen := 1; gen <= 9; gen++ {
		now := int64(10 * gen)
		goes(t, g, api.Msg{Kind: api.KBeat, Who: 1, Gen: gen - 1, Seq: now, Epoch: now}, now)
		had, others := g.Replay(1), whole(g)
		goes(t, g, api.Msg{Kind: api.KRotate, Who: 1, Gen: gen, Seq: now + 1, Epoch: now}, now)
		if g.Old(1) != had || had.Top() != now+1 || had.Bits() != 3 {
			t.Errorf("at generation %d Old is another one, or at %d, %b", gen, g.Old(1).Top(), g.Old(1).Bits())
		}
		if r := g.Replay(1); r == had || r.Top() != 0 || r.Bits() != 0 {
			t.Errorf("at generation %d Replay is not a new one, but at %d, %b", gen, r.Top(), r.Bits())
		}
		if g.Ring().Gen(1) != gen || g.Ring().Since(1) != now {
			t.Errorf("it stands at generation %d since %d", g.Ring().Gen(1), g.Ring().Since(1))
		}
		if l := whole(g); l[0] != others[0] || l[2] != others[2] {
			t.Errorf("another one was changed to %+v, %+v", l[0], l[2])
		}
	}
}

func TestARotationAgain(t *testing.T) { // 8.2, 8.3: it goes once, and the old key turns nothing
	g := made(t, setup(1, 1))
	first := api.Msg{Kind: api.KRotate, Gen: 1, Seq: 1}
	goes(t, g, first, 0)
	stops(t, g, first, 0, api.ErrGen)
	stops(t, g, api.Msg{Kind: api.KRotate, Gen: 1, Seq: 2}, 0, api.ErrGen)                           // within the grace of generation 0
	checks(t, g, by(t, seed, 0, 0, api.Msg{Kind: api.KRotate, Gen: 2, Seq: 2}), 0, nil, api.ErrAuth) // by its key
	goes(t, g, api.Msg{Kind: api.KRotate, Gen: 2, Seq: 1}, 0)
	stops(t, g, api.Msg{Kind: api.KBeat, Gen: 0, Seq: 9}, 0, api.ErrGen) // within its grace, but two ahead
	goes(t, g, api.Msg{Kind: api.KBeat, Gen: 1, Seq: 2}, 0)
}

func TestManyRotations(t *testing.T) { // 8.2: to the last generation, and round the end of what counts them
	g := made(t, setup(2, 1))
	g.holders[1].turns.Store(math.MaxUint32 - 2)
	was := part{now: g.Replay(1), old: g.Old(1)}
	sets(t, g.Ring().Set(1, 59990, 0))
	for gen := 59991; gen <= 60000; gen++ {
		goes(t, g, api.Msg{Kind: api.KRotate, Who: 1, Gen: gen, Seq: 5, Epoch: 1}, 1)
		if g.Old(1) != was.now || g.Replay(1) == was.old || g.Replay(1) == was.now {
			t.Errorf("at generation %d the Replays are not the right ones", gen)
		}
		was = part{now: g.Replay(1), old: g.Old(1)}
	}
	takes(t, g, api.Msg{Kind: api.KRotate, Who: 1, Gen: 60001, Seq: 1, Epoch: 1}, 1, api.ErrArg)
	stops(t, g, api.Msg{Kind: api.KRotate, Who: 1, Gen: 60000, Seq: 1, Epoch: 1}, 1, api.ErrGen)
	goes(t, g, api.Msg{Kind: api.KBeat, Who: 1, Gen: 60000, Seq: 1, Epoch: 1}, 1)
}

func TestWhatIsHandedOutIsTheGatesOwn(t *testing.T) { // 8.2: what is set there counts in Check and Take
	g := midway(t)
	if g.Ring() != g.Ring() || g.Replay(2) != g.Replay(2) || g.Old(2) != g.Old(2) {
		t.Errorf("each time another one is handed out")
	}
	sets(t, g.Replay(2).Set(50, 1), g.Old(2).Set(0, 0), g.Ring().Set(2, 9, 11))
	stops(t, g, api.Msg{Kind: api.KBeat, Who: 2, Gen: 3, Seq: 60, Epoch: 12}, 12, api.ErrGen)
	stops(t, g, api.Msg{Kind: api.KBeat, Who: 2, Gen: 9, Seq: 50, Epoch: 12}, 12, api.ErrReplay)
	goes(t, g, api.Msg{Kind: api.KBeat, Who: 2, Gen: 9, Seq: 51, Epoch: 12}, 12)
	goes(t, g, api.Msg{Kind: api.KBeat, Who: 2, Gen: 8, Seq: 1, Epoch: 12}, 12)
}

func TestNothingOfTheArgumentsIsKept(t *testing.T) { // rule 2 of the document
	g, m := midway(t), api.Msg{Kind: api.KBeat, Who: 2, Gen: 3, Seq: 21, Epoch: 12}
	e, c := own(t, m), 0
	got, _ := g.Check(e, 12, func(int) bool { c++; return false })
	clear(e)
	takes(t, g, m, 12, api.OK)
	if got != m || c != 1 {
		t.Errorf("%+v, asked %d times", got, c)
	}
	changed := midway(t)
	e = own(t, m)
	checks(t, changed, e, 12, func(int) bool { return false }, api.OK)
	if got, code := changed.Check(e, 12, func(int) bool { clear(e); return false }); got != m || code != api.OK {
		t.Errorf("of bytes that are changed under way: %+v, %d", got, code)
	}
}

func TestOfNil(t *testing.T) { // 8.2
	var g *Gate
	e := own(t, api.Msg{Kind: api.KBeat, Seq: 1})
	for _, n := range append(ends(), 0, 1, 15, last) {
		for _, b := range [][]byte{nil, {}, e} {
			if m, code := g.Check(b, n, nil); m != (api.Msg{}) || code != api.ErrArg {
				t.Errorf("Check of nil is %+v, %d", m, code)
			}
			if m, code := g.Check(b, n, func(int) bool { panic("out") }); m != (api.Msg{}) || code != api.ErrArg {
				t.Errorf("Check of nil is %+v, %d", m, code)
			}
		}
		if a, b := g.Take(api.Msg{Kind: api.KBeat, Seq: 1}, n), g.Take(api.Msg{}, n); a != api.ErrArg || b != api.ErrArg {
			t.Errorf("Take of nil is %d, %d", a, b)
		}
		if g.Replay(int(n)) != nil || g.Old(int(n)) != nil {
			t.Errorf("nil has a Replay of %d", n)
		}
	}
	if g.Ring() != nil {
		t.Errorf("nil has a Ring")
	}
}

func TestOfOneThatNewDidNotMake(t *testing.T) { // it has no collectors
	g := &Gate{}
	for who := range 16 {
		stops(t, g, api.Msg{Kind: api.KBeat, Who: who, Seq: 1}, 0, api.ErrWho)
		stops(t, g, api.Msg{Kind: api.KRotate, Who: who, Seq: 1, Gen: 1}, 0, api.ErrWho)
	}
	checks(t, g, nil, 0, nil, api.ErrBytes)
	takes(t, g, api.Msg{}, 0, api.ErrArg)
	if g.Ring() != nil || g.Replay(0) != nil || g.Old(0) != nil {
		t.Errorf("it has a Ring or a Replay")
	}
}

// place is a number of a collector's generation.
type place struct {
	who, gen int
	seq      int64
}

// tale is a second telling of a Gate, which keeps all numbers that ever were taken.
type tale struct {
	c     api.Conf
	gen   [16]int
	since [16]int64
	taken map[place]int
}

// generation is whether m is sealed by a generation that may seal it at now.
func (a *tale) generation(m api.Msg, now int64) bool {
	has := a.gen[m.Who]
	end := new(big.Int).Add(big.NewInt(a.since[m.Who]), big.NewInt(int64(a.c.Grace)))
	switch {
	case m.Kind == api.KRotate:
		return m.Gen == has+1
	case m.Gen == has:
		return true
	}
	return m.Gen == has-1 && big.NewInt(now).Cmp(end) < 0
}

// again is whether m's number was taken of the generation that sealed it, or is too old.
func (a *tale) again(m api.Msg) bool {
	top := int64(0)
	for p := range a.taken {
		if p.who == m.Who && p.gen == sealing(m) {
			top = max(top, p.seq)
		}
	}
	return m.Seq <= top-int64(a.c.Window) || a.taken[place{m.Who, sealing(m), m.Seq}] > 0
}

// check is the code of Check of m, with its tag right or not.
func (a *tale) check(m api.Msg, right bool, now int64, out map[int]bool) int {
	late := new(big.Int).Sub(big.NewInt(m.Epoch), big.NewInt(now))
	switch {
	case m.Who >= a.c.N || out[m.Who]:
		return api.ErrWho
	case !a.generation(m, now):
		return api.ErrGen
	case !right:
		return api.ErrAuth
	case a.again(m):
		return api.ErrReplay
	case late.Sign() < 0 || late.Cmp(big.NewInt(int64(a.c.Fresh))) >= 0:
		return api.ErrStale
	case m.Metric >= a.c.M:
		return api.ErrArg
	}
	return api.OK
}

// take is the code of Take, and what comes of it.
func (a *tale) take(m api.Msg, now int64) int {
	switch {
	case now < 0 || now > last || !wire.May(m):
		return api.ErrArg
	case m.Who >= a.c.N:
		return api.ErrWho
	case !a.generation(m, now):
		return api.ErrGen
	case a.again(m):
		return api.ErrReplay
	}
	a.taken[place{m.Who, sealing(m), m.Seq}]++
	if m.Kind == api.KRotate {
		a.gen[m.Who], a.since[m.Who] = m.Gen, now
	}
	return api.OK
}

// near is a number at an end of its kind, or near to one of those that are handed in.
func near(dice *rand.Rand, about ...int64) int64 {
	if dice.IntN(40) == 0 {
		l := ends()
		return l[dice.IntN(len(l))]
	}
	return about[dice.IntN(len(about))] + dice.Int64N(5) - 2
}

// some is a message that may be sent at that now, or nearly so.
func (a *tale) some(dice *rand.Rand, now, top int64) api.Msg {
	m := api.Msg{
		Kind: 1 + dice.IntN(3), Who: dice.IntN(a.c.N+1) % 16,
		Seq:   min(max(near(dice, top+2, top+3, top, top-int64(a.c.Window)), 1), last),
		Epoch: min(max(near(dice, now+1, now, now+int64(a.c.Fresh)), 0), last),
	}
	if m.Kind == api.KRotate && dice.IntN(4) > 0 {
		m.Kind = api.KBeat
	}
	if m.Kind == api.KSample {
		m.Metric, m.Value = dice.IntN(4), dice.Int64N(last+1)
	}
	m.Gen = min(max(a.gen[m.Who]+[]int{0, 0, 0, -1, -1, 1, 1, -2}[dice.IntN(8)], 0), 60000)
	return m
}

func TestAsToldASecondTime(t *testing.T) { // T1, T3: whatever is called, in whatever order
	dice, codes := rand.New(rand.NewPCG(8, 8)), map[int]int{}
	for range 150 {
		n := 1 + dice.IntN(16)
		c := setup(n, 1+dice.IntN(4))
		c.Fresh, c.Grace, c.Window = 1+dice.IntN(8), 1+dice.IntN(6), 1+dice.IntN(10)
		g, a := made(t, c), &tale{c: c, taken: map[place]int{}}
		now, top := dice.Int64N(3)*(last/2-20), int64(0)
		for range 200 {
			now += dice.Int64N(2) * dice.Int64N(2)
			m := a.some(dice, now, top)
			out := map[int]bool{dice.IntN(16): true}
			k := mac.Of(seed, m.Who, sealing(m)+dice.IntN(9)/8)
			e, _ := wire.Seal(k, m)
			want := a.check(m, k == mac.Of(seed, m.Who, sealing(m)), now, out)
			checks(t, g, e, now, func(who int) bool { return out[who] }, want)
			codes[want]++
			if want == api.OK || dice.IntN(9) == 0 {
				at := now
				if dice.IntN(9) == 0 {
					at = near(dice, now)
				}
				code := a.take(m, at)
				takes(t, g, m, at, code)
				if code == api.OK {
					top = m.Seq
				}
			}
		}
		a.holds(t, g)
	}
	for _, code := range []int{api.OK, api.ErrWho, api.ErrGen, api.ErrAuth, api.ErrReplay, api.ErrStale, api.ErrArg} {
		if codes[code] < 200 {
			t.Errorf("code %d was told only %d times", code, codes[code])
		}
	}
}

// holds asks that g stands where a does, and that nothing was taken twice.
func (a *tale) holds(t *testing.T, g *Gate) {
	t.Helper()
	for who := range a.c.N {
		if g.Ring().Gen(who) != a.gen[who] || g.Ring().Since(who) != a.since[who] {
			t.Errorf("%d stands at generation %d since %d", who, g.Ring().Gen(who), g.Ring().Since(who))
		}
	}
	for p, n := range a.taken {
		if n != 1 {
			t.Errorf("%+v was taken %d times", p, n)
		}
	}
}

func TestOnceInTimeByItsOwnKey(t *testing.T) { // 8.3, T3: of what seal makes, each of many copies, in any order
	dice := rand.New(rand.NewPCG(8, 3))
	c := setup(4, 2)
	c.Window = 64
	g, taken, sent := made(t, c), map[place]int{}, 0
	var l []*seal.Sealer
	for who := range 4 {
		l = append(l, seal.New(seed, who))
	}
	for now := range int64(60) {
		var on [][]byte
		for range 12 {
			s := l[dice.IntN(4)]
			e, _ := s.Sample(dice.IntN(2), now+dice.Int64N(3), dice.Int64N(100))
			on = append(on, e, e, e)
			sent++
		}
		dice.Shuffle(len(on), func(i, j int) { on[i], on[j] = on[j], on[i] })
		for _, e := range on {
			if m, code := g.Check(e, now, nil); code == api.OK {
				takes(t, g, m, now, api.OK)
				taken[place{m.Who, m.Gen, m.Seq}]++
			}
			checks(t, g, e, now, nil, api.ErrReplay)
		}
		if now%7 == 0 {
			e, _ := l[now%4].Rotate(now)
			m, code := g.Check(e, now, nil)
			sets(t, code)
			takes(t, g, m, now, api.OK)
		}
		for _, e := range on { // and not later
			if _, code := g.Check(e, now+3, nil); code == api.OK {
				t.Errorf("%x is let again", e)
			}
		}
	}
	for p, n := range taken {
		if n != 1 {
			t.Errorf("%+v was taken %d times", p, n)
		}
	}
	if len(taken) != sent {
		t.Errorf("%d of %d were taken", len(taken), sent)
	}
}

func TestTheSameEachTime(t *testing.T) { // what others do at one time, at Gates of their own, changes no answer
	var all sync.WaitGroup
	for range 16 {
		all.Go(func() {
			g := New(setup(4, 1))
			for seq := int64(1); seq <= 100; seq++ {
				e, _ := wire.Seal(mac.Of(seed, 1, 0), api.Msg{Kind: api.KBeat, Who: 1, Seq: seq, Epoch: seq})
				m, code := g.Check(e, seq, nil)
				if again := g.Take(m, seq); code != api.OK || again != api.OK {
					t.Errorf("number %d: %d, %d", seq, code, again)
				}
			}
		})
	}
	all.Wait()
}
