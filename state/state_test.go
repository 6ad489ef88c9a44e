package state

import (
	"bytes"
	"math"
	"math/rand/v2"
	"slices"
	"sync"
	"testing"

	"quorumite/api"
	"quorumite/conf"
	"quorumite/seal"
)

const most = 1 << 40 // the greatest epoch, number and value

// part is a part of a configuration, with what it may be in the default one and what it may not.
type part struct {
	name        string
	put         func(c *api.Conf, n int64)
	may, mayNot []int64
}

// parts are all of them that conf.Wrong names, and the seed.
func parts() []part {
	return []part{
		{"n", func(c *api.Conf, n int64) { c.N = int(n) }, []int64{4, 5, 16}, []int64{3, 0, 17}},
		{"f", func(c *api.Conf, n int64) { c.F = int(n) }, []int64{0, 1}, []int64{-1, 2}},
		{"m", func(c *api.Conf, n int64) { c.M = int(n) }, []int64{1}, []int64{0, 2, 4, 5}},
		{"quorum", func(c *api.Conf, n int64) { c.Quorum = int(n) }, []int64{3, 4}, []int64{2, 5, 0}},
		{"fresh", func(c *api.Conf, n int64) { c.Fresh = int(n) }, []int64{1, 8}, []int64{0, 9}},
		{"grace", func(c *api.Conf, n int64) { c.Grace = int(n) }, []int64{1, 100}, []int64{0, 101}},
		{"window", func(c *api.Conf, n int64) { c.Window = int(n) }, []int64{1, 64}, []int64{0, 65}},
		{"target of 0", func(c *api.Conf, n int64) { c.Target[0] = n }, []int64{1, most}, []int64{0, -1, most + 1}},
		{"target of 1", func(c *api.Conf, n int64) { c.Target[1] = n }, []int64{0}, []int64{1, -1, 1000}},
		{"target of 3", func(c *api.Conf, n int64) { c.Target[3] = n }, []int64{0}, []int64{1, -1, most}},
		{"tol", func(c *api.Conf, n int64) { c.Tol = int(n) }, []int64{0, 1000}, []int64{-1, 1001}},
		{"min", func(c *api.Conf, n int64) { c.Min = int(n) }, []int64{1, 2, 100}, []int64{0, 101, 10001}},
		{"max", func(c *api.Conf, n int64) { c.Max = int(n) }, []int64{1, 10000}, []int64{0, 10001}},
		{"calmup", func(c *api.Conf, n int64) { c.CalmUp = int(n) }, []int64{0, 60}, []int64{-1, 61}},
		{"calmdown", func(c *api.Conf, n int64) { c.CalmDown = int(n) }, []int64{0, 60}, []int64{-1, 61}},
		{"podsup", func(c *api.Conf, n int64) { c.PodsUp = int(n) }, []int64{1, 1000}, []int64{0, 1001}},
		{"pctup", func(c *api.Conf, n int64) { c.PctUp = int(n) }, []int64{1, 1000}, []int64{0, 1001}},
		{"podsdown", func(c *api.Conf, n int64) { c.PodsDown = int(n) }, []int64{1, 1000}, []int64{0, 1001}},
		{"pctdown", func(c *api.Conf, n int64) { c.PctDown = int(n) }, []int64{1, 100}, []int64{0, 101}},
		{"period", func(c *api.Conf, n int64) { c.Period = int(n) }, []int64{1, 60}, []int64{0, 61}},
		{"far", func(c *api.Conf, n int64) { c.Far = n }, []int64{0, most}, []int64{-1, most + 1}},
		{"strikes", func(c *api.Conf, n int64) { c.Strikes = int(n) }, []int64{1, 100}, []int64{0, 101}},
		{"probe", func(c *api.Conf, n int64) { c.Probe = int(n) }, []int64{1, 100}, []int64{0, 101}},
		{"sectors", func(c *api.Conf, n int64) { c.Sectors = int(n) }, []int64{64, 4096}, []int64{63, 4097}},
		{"seed", func(c *api.Conf, n int64) { c.Seed = uint64(n) }, []int64{0, 2, -1, math.MinInt64}, nil},
	}
}

// made is a State of what is known to be let.
func made(t *testing.T, c api.Conf) *State {
	t.Helper()
	s := New(c)
	if s == nil {
		t.Fatalf("New of %+v is nil", c)
	}
	return s
}

// reads is the State of what are known to be its Bytes, and all of it is held against the sheet.
func reads(t *testing.T, c api.Conf, h sheet) *State {
	t.Helper()
	s, code := From(c, h.bytes())
	if s == nil || code != api.OK {
		t.Fatalf("From of %v is %v, %d", h, s, code)
	}
	tells(t, s, h)
	return s
}

// at is a State and a second telling at that epoch, of whose collectors each has that generation since then.
func at(t *testing.T, c api.Conf, now int64, gen int, since int64) (*State, *told) {
	t.Helper()
	o := begun(c, now, gen, since)
	return reads(t, c, o.sheet()), o
}

// tells asks that all of a State is as the sheet has it: by its Bytes, by each call, and by its parts.
func tells(t *testing.T, s *State, h sheet) {
	t.Helper()
	if b := s.Bytes(); !bytes.Equal(b, h.bytes()) {
		t.Fatalf("Bytes are\n%v, not\n%v", b, h.bytes())
	}
	if s.Now() != int64(h.epoch) || s.Count() != int(h.count) {
		t.Fatalf("at %d there are %d, not at %d %d", s.Now(), s.Count(), h.epoch, h.count)
	}
	for who, x := range h.collectors {
		ring, now, old := s.gate.Ring(), s.gate.Replay(who), s.gate.Old(who)
		is := [6]uint64{uint64(ring.Gen(who)), uint64(ring.Since(who)), uint64(now.Top()), now.Bits(), uint64(old.Top()), old.Bits()}
		if is != [6]uint64(x[:6]) {
			t.Fatalf("of %d the Gate has %v, not %v", who, is, x[:6])
		}
		if s.Out(who) != (x[8] == 1) {
			t.Fatalf("Out(%d) is %v", who, s.Out(who))
		}
	}
	for _, who := range []int{-1, len(h.collectors), 16, 17, math.MinInt, math.MaxInt} {
		if !s.Out(who) {
			t.Fatalf("Out(%d) is false", who)
		}
	}
	standings, samples, decisions := h.told()
	if l := s.Standings(); !slices.Equal(l, standings) {
		t.Fatalf("Standings are %v, not %v", l, standings)
	}
	if l := s.Samples(); !slices.Equal(l, samples) {
		t.Fatalf("Samples are %v, not %v", l, samples)
	}
	if l := s.Decisions(); !slices.Equal(l, decisions) {
		t.Fatalf("Decisions are %v, not %v", l, decisions)
	}
}

// told is what a State with these numbers tells.
func (h sheet) told() ([]api.Standing, []api.Sample, []api.Decision) {
	var standings []api.Standing
	for _, x := range h.collectors {
		standings = append(standings, api.Standing{Strikes: int(x[6]), Clean: int(x[7]), Out: x[8] == 1})
	}
	var samples []api.Sample
	for _, x := range h.samples {
		samples = append(samples, api.Sample{Epoch: int64(x[0]), Metric: int(x[1]), Who: int(x[2]), Value: int64(x[3])})
	}
	var decisions []api.Decision
	for _, x := range h.decisions {
		d := api.Decision{Epoch: int64(x[0]), Replicas: int(x[1]), Want: int(x[2]), Hold: x[3] == 1}
		for i := range d.Values {
			d.Values[i] = int64(x[4+i])
		}
		decisions = append(decisions, d)
	}
	return standings, samples, decisions
}

// does does the record, and asks for the decision and the code: nothing changes by one that is no good.
func does(t *testing.T, s *State, r api.Record, want api.Decision, code int) {
	t.Helper()
	was := s.Bytes()
	if d, got := s.Do(r); d != want || got != code {
		t.Fatalf("Do of %+v is %+v, %d, not %+v, %d", r, d, got, want, code)
	}
	if code != api.OK && !bytes.Equal(s.Bytes(), was) {
		t.Fatalf("Do of %+v changed something", r)
	}
}

// both does the record to both, and asks that they agree in all.
func (o *told) both(t *testing.T, s *State, r api.Record) (api.Decision, int) {
	t.Helper()
	d, code := o.do(r)
	does(t, s, r, d, code)
	tells(t, s, o.sheet())
	return d, code
}

// goes does the record to both, which must go.
func (o *told) goes(t *testing.T, s *State, r api.Record) api.Decision {
	t.Helper()
	d, code := o.both(t, s, r)
	if code != api.OK {
		t.Fatalf("the test can't go on: %+v is %d", r, code)
	}
	return d
}

// stops asks that the record is refused with that code.
func (o *told) stops(t *testing.T, s *State, r api.Record, code int) {
	t.Helper()
	if _, got := o.both(t, s, r); got != code {
		t.Fatalf("%+v is %d, not %d", r, got, code)
	}
}

// checks asks twice for Check's answer, and that nothing changes by it.
func checks(t *testing.T, s *State, b []byte, want api.Msg, code int) {
	t.Helper()
	were, was := bytes.Clone(b), s.Bytes()
	for range 2 {
		if m, got := s.Check(b); m != want || got != code {
			t.Fatalf("Check of %x is %+v, %d, not %+v, %d", b, m, got, want, code)
		}
	}
	if !bytes.Equal(b, were) || !bytes.Equal(s.Bytes(), was) {
		t.Fatalf("Check of %x changed something", were)
	}
}

// lets asks that Check takes m in an envelope by its own key.
func lets(t *testing.T, s *State, c api.Conf, m api.Msg) {
	t.Helper()
	checks(t, s, own(t, c, m), m, api.OK)
}

// bars asks that Check does not take m in an envelope by its own key.
func bars(t *testing.T, s *State, c api.Conf, m api.Msg, code int) {
	t.Helper()
	checks(t, s, own(t, c, m), api.Msg{}, code)
}

// shut is the record that closes an epoch.
func shut() api.Record { return api.Record{Kind: api.RClose} }

// recorded is the record that m belongs to.
func recorded(m api.Msg) api.Record {
	if m.Kind == api.KRotate {
		return api.Record{Kind: api.RRotate, Msg: m}
	}
	return api.Record{Kind: api.RAccept, Msg: m}
}

// says lets who say a value of a metric for the epoch now, by its next number.
func (o *told) says(t *testing.T, s *State, who, metric int, value int64) {
	t.Helper()
	m := o.of(api.KSample, who, o.top(who, o.gens[who])+1)
	m.Metric, m.Value = metric, value
	o.goes(t, s, recorded(m))
}

// say lets collectors from 0 on say these values of a metric for the epoch now; those below 0 are not said.
func (o *told) say(t *testing.T, s *State, metric int, values ...int64) {
	t.Helper()
	for who, v := range values {
		if v >= 0 {
			o.says(t, s, who, metric, v)
		}
	}
}

func TestNewAtTheEdges(t *testing.T) { // 19.1: nil just of what conf does not let; From likewise, with ErrArg ahead of ErrBytes
	for _, p := range parts() {
		for _, n := range p.may {
			c := with(func(c *api.Conf) { p.put(c, n) })
			h := begun(c, 0, 0, 0).sheet()
			tells(t, made(t, c), h)
			reads(t, c, h)
		}
		for _, n := range append(p.mayNot, math.MinInt64, math.MaxInt64) {
			c := with(func(c *api.Conf) { p.put(c, n) })
			if conf.May(c) != (p.mayNot == nil) {
				t.Fatalf("the test is wrong: %s %d", p.name, n)
			}
			if p.mayNot == nil {
				continue
			}
			if s := New(c); s != nil {
				t.Errorf("New with %s %d is not nil", p.name, n)
			}
			for _, b := range [][]byte{nil, {1}, made(t, conf.Default()).Bytes()} {
				if s, code := From(c, b); s != nil || code != api.ErrArg {
					t.Errorf("From with %s %d is %v, %d", p.name, n, s, code)
				}
			}
		}
	}
	if s, code := From(api.Conf{}, nil); New(api.Conf{}) != nil || s != nil || code != api.ErrArg {
		t.Errorf("the zero configuration is taken: %d", code)
	}
}

func TestNewBegins(t *testing.T) { // 19.1: epoch 0, Min, and nothing else
	s := made(t, conf.Default())
	if s.Now() != 0 || s.Count() != 1 || len(s.Decisions()) != 0 || len(s.Samples()) != 0 {
		t.Errorf("a new one is at %d with %d, %v, %v", s.Now(), s.Count(), s.Decisions(), s.Samples())
	}
	if !slices.Equal(s.Standings(), make([]api.Standing, 4)) {
		t.Errorf("a new one's Standings are %v", s.Standings())
	}
	for n := 1; n <= 16; n++ {
		for m := 1; m <= 4; m++ {
			c := targets(with(func(c *api.Conf) { c.N, c.F, c.Quorum, c.Min, c.Max = n, 0, 1, n, 50+n }), []int64{1000, 1, 7, most}[:m]...)
			tells(t, made(t, c), begun(c, 0, 0, 0).sheet())
		}
	}
}

func TestAnOrdinaryRow(t *testing.T) { // 19.1, 19.2, 19.3: by hand
	s := made(t, conf.Default())
	does(t, s, shut(), api.Decision{Replicas: 1, Hold: true}, api.OK)
	for who, v := range []int64{1000, 1500, 900, 5000} {
		does(t, s, recorded(api.Msg{Kind: api.KSample, Who: who, Seq: 1, Epoch: 1, Value: v}), api.Decision{}, api.OK)
	}
	does(t, s, recorded(api.Msg{Kind: api.KSample, Who: 1, Seq: 3, Epoch: 2, Value: 7}), api.Decision{}, api.OK)
	does(t, s, recorded(api.Msg{Kind: api.KBeat, Who: 2, Seq: 4, Epoch: 1}), api.Decision{}, api.OK)
	does(t, s, recorded(api.Msg{Kind: api.KRotate, Who: 2, Gen: 1, Seq: 5, Epoch: 1}), api.Decision{}, api.OK)
	does(t, s, recorded(api.Msg{Kind: api.KBeat, Who: 2, Gen: 1, Seq: 2, Epoch: 1}), api.Decision{}, api.OK)
	does(t, s, shut(), api.Decision{Epoch: 1, Replicas: 2, Want: 2, Values: [4]int64{1250}}, api.OK)
	want := laid([]uint64{
		2,
		0, 0, 1, 1, 0, 0, 0, 0, 0,
		0, 0, 3, 0b101, 0, 0, 1, 0, 0,
		1, 1, 2, 1, 5, 0b10011, 0, 0, 0,
		0, 0, 1, 1, 0, 0, 1, 0, 0,
		1, 2,
		2, 1, 2,
		2,
		1, 2, 0, 1, 7,
		2,
		0, 1, 0, 1, 0, 0, 0, 0,
		1, 2, 2, 0, 1250, 0, 0, 0,
	})
	if b := s.Bytes(); !bytes.Equal(b, want) {
		t.Errorf("Bytes are\n%v, not\n%v", b, want)
	}
	if s.Now() != 2 || s.Count() != 2 || s.Out(3) || !slices.Equal(s.Samples(), []api.Sample{{Who: 1, Epoch: 2, Value: 7}}) {
		t.Errorf("it is at %d with %d, %v", s.Now(), s.Count(), s.Samples())
	}
	if !slices.Equal(s.Standings(), []api.Standing{{}, {Strikes: 1}, {}, {Strikes: 1}}) {
		t.Errorf("Standings are %v", s.Standings())
	}
	if !slices.Equal(s.Decisions(), []api.Decision{{Replicas: 1, Hold: true}, {Epoch: 1, Replicas: 2, Want: 2, Values: [4]int64{1250}}}) {
		t.Errorf("Decisions are %v", s.Decisions())
	}
	x, code := From(conf.Default(), want)
	if code != api.OK || !x.Same(s) || !s.Same(x) {
		t.Errorf("From is not the same: %d", code)
	}
}

func TestTheExamples(t *testing.T) { // chapter 19's, and DOC.md's ninth
	d, code := made(t, conf.Default()).Do(shut())
	if !d.Hold || d.Epoch != 0 || d.Want != 0 || code != api.OK {
		t.Errorf("RClose at first is %+v, %d", d, code)
	}
}

func TestCheckOfEachKind(t *testing.T) { // 19.1: what the Gate takes goes; only samples are asked of the Table
	c := with(func(c *api.Conf) { c.M, c.Target[1] = 2, 5 })
	s := made(t, c)
	for _, m := range []api.Msg{
		{Kind: api.KSample, Seq: 1},
		{Kind: api.KSample, Who: 3, Seq: most, Epoch: 1, Value: most, Metric: 1},
		{Kind: api.KBeat, Who: 2, Seq: 1},
		{Kind: api.KBeat, Who: 2, Seq: 1, Epoch: 1},
		{Kind: api.KRotate, Who: 1, Gen: 1, Seq: 1},
		{Kind: api.KRotate, Who: 1, Gen: 1, Seq: 9, Epoch: 1},
	} {
		lets(t, s, c, m)
	}
	for _, kind := range []int{api.KSample, api.KBeat, api.KRotate} {
		m := begun(c, 0, 0, 0).of(kind, 2, 5)
		bad := own(t, c, m)
		bad[47] ^= 1
		checks(t, s, bad, api.Msg{}, api.ErrAuth)
		for n := range 48 {
			checks(t, s, bad[:n], api.Msg{}, api.ErrBytes)
		}
		checks(t, s, append(own(t, c, m), 0), api.Msg{}, api.ErrBytes)
		late, nobody, gen := m, m, m
		late.Epoch = 2
		bars(t, s, c, late, api.ErrStale)
		nobody.Who = 4
		bars(t, s, c, nobody, api.ErrWho)
		gen.Gen++
		bars(t, s, c, gen, api.ErrGen)
	}
	bars(t, s, c, api.Msg{Kind: api.KSample, Seq: 1, Metric: 2}, api.ErrArg)
	checks(t, s, bytes.Repeat([]byte{255}, 48), api.Msg{}, api.ErrBytes)
	checks(t, s, make([]byte, 48), api.Msg{}, api.ErrBytes)
}

func TestCheckAsksTheEpochNow(t *testing.T) { // 19.1: now is the epoch that the State is at
	c := with(func(c *api.Conf) { c.Fresh = 3 })
	for _, now := range []int64{0, 1, 5, most - 2, most - 1, most} {
		s, _ := at(t, c, now, 1, max(0, now-2))
		for _, kind := range []int{api.KSample, api.KBeat} {
			for epoch := max(0, now-3); epoch <= min(now+5, most); epoch++ {
				m := api.Msg{Kind: kind, Who: 1, Gen: 1, Seq: 1, Epoch: epoch}
				if epoch >= now && epoch <= now+2 {
					lets(t, s, c, m)
				} else {
					bars(t, s, c, m, api.ErrStale)
				}
			}
			m := api.Msg{Kind: kind, Who: 1, Gen: 0, Seq: 1, Epoch: now}
			if now >= 2 { // the grace of two epochs is over
				bars(t, s, c, m, api.ErrGen)
			} else {
				lets(t, s, c, m)
			}
		}
	}
}

func TestCheckOfOneThatIsOut(t *testing.T) { // 19.1: its envelopes are nobody's, ahead of all else that is wrong with them
	c := conf.Default()
	o := begun(c, 7, 0, 0)
	o.standings[2] = api.Standing{Out: true, Clean: 1}
	s := reads(t, c, o.sheet())
	for who := range 4 {
		for _, kind := range []int{api.KSample, api.KBeat, api.KRotate} {
			m := o.of(kind, who, 1)
			if who != 2 {
				lets(t, s, c, m)
				continue
			}
			bars(t, s, c, m, api.ErrWho)
			m.Gen, m.Epoch = 9, 0
			bars(t, s, c, m, api.ErrWho)
			checks(t, s, sealed(t, c, 1, 0, m), api.Msg{}, api.ErrWho)
		}
	}
	for range 3 {
		o.goes(t, s, shut())
	}
	lets(t, s, c, o.of(api.KSample, 2, 1)) // three epochs later it is back
}

func TestCheckOfASampleThatIsThere(t *testing.T) { // 19.1: the Table's error, behind all of the Gate's
	c := targets(conf.Default(), 1000, 1000)
	s, o := at(t, c, 5, 0, 0)
	m := api.Msg{Kind: api.KSample, Who: 1, Seq: 1, Epoch: 5, Value: 7, Metric: 1}
	o.goes(t, s, recorded(m))
	bars(t, s, c, m, api.ErrReplay)
	m.Seq, m.Value = 2, 8
	bars(t, s, c, m, api.ErrTwice)
	checks(t, s, sealed(t, c, 2, 0, m), api.Msg{}, api.ErrAuth)
	for _, change := range []func(m *api.Msg){
		func(m *api.Msg) { m.Who = 2 },
		func(m *api.Msg) { m.Epoch = 6 },
		func(m *api.Msg) { m.Metric = 0 },
	} {
		other := m
		change(&other)
		lets(t, s, c, other)
	}
	for _, kind := range []int{api.KBeat, api.KRotate} { // of which the Table is not asked
		o.goes(t, s, recorded(api.Msg{Kind: api.KSample, Who: 1, Seq: 2 + int64(kind), Epoch: 5 + int64(kind)/3}))
		lets(t, s, c, o.of(kind, 1, 40))
	}
	o.goes(t, s, shut())
	m.Epoch = 6
	lets(t, s, c, m)
}

func TestCheckOfBytesThatAreChangedLater(t *testing.T) { // rule 2
	c := conf.Default()
	s := made(t, c)
	m := api.Msg{Kind: api.KSample, Who: 3, Seq: 1, Epoch: 1, Value: 9}
	e := own(t, c, m)
	got, code := s.Check(e)
	clear(e)
	if got != m || code != api.OK {
		t.Errorf("Check is %+v, %d", got, code)
	}
	does(t, s, recorded(got), api.Decision{}, api.OK)
	if l := s.Samples(); !slices.Equal(l, []api.Sample{{Who: 3, Epoch: 1, Value: 9}}) {
		t.Errorf("Samples are %v", l)
	}
}

func TestWhatIsSealedIsTakenOnce(t *testing.T) { // 19.1, 19.2, T3: of collectors, from Check to Do, through rotations
	c := conf.Default()
	s, o := at(t, c, 0, 0, 0)
	var l []*seal.Sealer
	for who := range 4 {
		l = append(l, seal.New(c.Seed, who))
	}
	for now := range int64(20) {
		var sent [][]byte
		for who, x := range l {
			e, _ := x.Sample(0, now, 1000+int64(who))
			sent = append(sent, e)
			if now%3 == int64(who) {
				e, _ = x.Rotate(now)
				sent = append(sent, e)
				e, _ = x.Beat(now)
				sent = append(sent, e)
			}
		}
		for _, e := range sent {
			m, code := s.Check(e)
			if code != api.OK {
				t.Fatalf("%x is %d", e, code)
			}
			o.goes(t, s, recorded(m))
			if _, code := s.Check(e); code != api.ErrReplay && code != api.ErrGen {
				t.Fatalf("again %x is %d", e, code)
			}
			if _, code := s.Do(recorded(m)); code == api.OK {
				t.Fatalf("%+v is done again", m)
			}
		}
		if d := o.goes(t, s, shut()); d.Hold || d.Values[0] != 1001 {
			t.Fatalf("epoch %d is %+v", now, d)
		}
	}
}

func TestDoOfEachKind(t *testing.T) { // 19.2: which messages belong to which records
	c := conf.Default()
	for _, kind := range []int{math.MinInt, -1<<32 + 1, -1, 0, 1, 2, 3, 4, 5, 256 + 1, 1<<32 + 1, math.MaxInt} {
		for _, of := range []int{-1, 0, 1, 2, 3, 4, 257, 1<<32 + 1, math.MaxInt} {
			for gen := range 3 {
				for seq := range int64(2) {
					s, o := at(t, c, 3, 1, 3)
					m := api.Msg{Kind: of, Who: 2, Gen: gen, Seq: seq, Epoch: 3}
					want := api.ErrArg
					switch {
					case seq == 0:
					case kind == api.RAccept && (of == api.KSample || of == api.KBeat):
						want = []int{api.OK, api.OK, api.ErrGen}[gen]
					case kind == api.RRotate && of == api.KRotate:
						want = []int{api.ErrGen, api.ErrGen, api.OK}[gen]
					}
					o.stops(t, s, api.Record{Kind: kind, Msg: m}, want)
				}
			}
		}
		want := api.ErrArg
		if kind == api.RClose {
			want = api.OK
		}
		s, o := at(t, c, 3, 1, 3)
		o.stops(t, s, api.Record{Kind: kind}, want)
	}
}

// changes make n one part of a message each.
func changes(n int64) []func(m *api.Msg) {
	return []func(m *api.Msg){
		func(m *api.Msg) { m.Kind = int(n) },
		func(m *api.Msg) { m.Who = int(n) },
		func(m *api.Msg) { m.Gen = int(n) },
		func(m *api.Msg) { m.Seq = n },
		func(m *api.Msg) { m.Epoch = n },
		func(m *api.Msg) { m.Value = n },
		func(m *api.Msg) { m.Metric = int(n) },
	}
}

func TestACloseHasNoMessage(t *testing.T) { // 19.2: ErrArg of each part that is not zero
	c := conf.Default()
	for _, n := range append(wild(), 1, 2, 3, 255, 256, 1<<32, most) {
		for i, change := range append(changes(n), func(m *api.Msg) { *m = api.Msg{Kind: api.KBeat, Seq: 1, Epoch: n} }) {
			s, o := at(t, c, 0, 0, 0)
			r := shut()
			change(&r.Msg)
			if o.stops(t, s, r, api.ErrArg); s.Now() != 0 {
				t.Errorf("change %d to %d closes", i, n)
			}
		}
	}
}

func TestMessagesThatMayNotBe(t *testing.T) { // 19.2: ErrArg, ahead of all else that is wrong
	c := targets(with(func(c *api.Conf) { c.N, c.F, c.Quorum = 16, 5, 11 }), 1000, 1000, 1000, 1000)
	base := []api.Msg{
		{Kind: api.KSample, Who: 1, Gen: 1, Seq: 9, Epoch: 5, Value: 3, Metric: 2}, // would go
		{Kind: api.KSample, Who: 1, Gen: 1, Seq: 9, Epoch: 4, Value: 3, Metric: 2}, // stale
		{Kind: api.KSample, Who: 1, Gen: 1, Seq: 9, Epoch: 7},                      // too far ahead
		{Kind: api.KSample, Who: 1, Gen: 1, Seq: 9, Epoch: 5, Metric: 3},           // twice
		{Kind: api.KSample, Who: 1, Gen: 7, Seq: 9, Epoch: 5},                      // of no generation
		{Kind: api.KSample, Who: 1, Gen: 1, Seq: 1, Epoch: 5},                      // a number that was taken
		{Kind: api.KBeat, Who: 1, Gen: 1, Seq: 9, Epoch: 5},
		{Kind: api.KBeat, Who: 1, Gen: 5, Seq: 9, Epoch: 5},
		{Kind: api.KBeat, Who: 1, Gen: 1, Seq: 1, Epoch: 5},
		{Kind: api.KRotate, Who: 1, Gen: 2, Seq: 9, Epoch: 5},
		{Kind: api.KRotate, Who: 1, Gen: 1, Seq: 9, Epoch: 5},
		{Kind: api.KRotate, Who: 1, Gen: 2, Seq: 1, Epoch: 5},
	}
	codes := map[int]int{}
	for _, m := range base {
		for _, n := range append(wild(), 0, 1, 2, 3, 4, 15, 16, 255, 256, 1<<32+1, 59999, 60000, 60001, most-1, most) {
			for _, change := range append(changes(n), func(m *api.Msg) {}) {
				s, o := at(t, c, 5, 1, 5)
				o.goes(t, s, recorded(api.Msg{Kind: api.KSample, Who: 1, Gen: 1, Seq: 1, Epoch: 5, Metric: 3}))
				r := recorded(m)
				change(&r.Msg)
				_, code := o.both(t, s, r)
				if !fair(r.Msg) && code != api.ErrArg {
					t.Fatalf("%+v is %d", r, code)
				}
				codes[code]++
			}
		}
	}
	for _, code := range []int{api.OK, api.ErrArg, api.ErrGen, api.ErrReplay, api.ErrStale, api.ErrTwice} {
		if codes[code] < 30 {
			t.Errorf("code %d was told only %d times", code, codes[code])
		}
	}
}

func TestWhichErrorIsToldFirst(t *testing.T) { // 19.2: of a sample the Table's, then the Gate's
	c := conf.Default()
	s, o := at(t, c, 5, 1, 0)
	o.goes(t, s, recorded(api.Msg{Kind: api.KSample, Gen: 1, Seq: 50, Epoch: 5}))
	for i, x := range []struct {
		m    api.Msg
		code int
	}{
		{api.Msg{Kind: api.KSample, Who: 4, Gen: 1, Seq: 1, Epoch: 5}, api.ErrArg},
		{api.Msg{Kind: api.KSample, Who: 4, Gen: 1, Seq: 1, Epoch: 9}, api.ErrArg},
		{api.Msg{Kind: api.KSample, Gen: 1, Seq: 51, Epoch: 5, Metric: 1}, api.ErrArg},
		{api.Msg{Kind: api.KSample, Gen: 9, Seq: 50, Epoch: 5, Metric: 1}, api.ErrArg},
		{api.Msg{Kind: api.KSample, Gen: 9, Seq: 50, Epoch: 4}, api.ErrStale},
		{api.Msg{Kind: api.KSample, Gen: 1, Seq: 50, Epoch: 7}, api.ErrStale},
		{api.Msg{Kind: api.KSample, Gen: 9, Seq: 50, Epoch: 5}, api.ErrTwice},
		{api.Msg{Kind: api.KSample, Gen: 1, Seq: 50, Epoch: 5}, api.ErrTwice},
		{api.Msg{Kind: api.KSample, Gen: 9, Seq: 50, Epoch: 6}, api.ErrGen},
		{api.Msg{Kind: api.KSample, Gen: 0, Seq: 50, Epoch: 6}, api.ErrGen},
		{api.Msg{Kind: api.KSample, Gen: 1, Seq: 50, Epoch: 6}, api.ErrReplay},
		{api.Msg{Kind: api.KSample, Gen: 1, Seq: 18, Epoch: 6}, api.ErrReplay},
		{api.Msg{Kind: api.KSample, Gen: 1, Seq: 19, Epoch: 6}, api.OK},
		{api.Msg{Kind: api.KBeat, Who: 4, Gen: 9, Seq: 50, Epoch: 5}, api.ErrWho},
		{api.Msg{Kind: api.KBeat, Gen: 9, Seq: 50, Epoch: 5}, api.ErrGen},
		{api.Msg{Kind: api.KBeat, Gen: 1, Seq: 50, Epoch: 5}, api.ErrReplay},
		{api.Msg{Kind: api.KBeat, Gen: 1, Seq: 51}, api.OK}, // whose epoch Do does not ask
		{api.Msg{Kind: api.KBeat, Gen: 1, Seq: 52, Epoch: most}, api.OK},
		{api.Msg{Kind: api.KRotate, Who: 15, Gen: 1, Seq: 50, Epoch: 5}, api.ErrWho},
		{api.Msg{Kind: api.KRotate, Gen: 1, Seq: 52, Epoch: 5}, api.ErrGen},
		{api.Msg{Kind: api.KRotate, Gen: 3, Seq: 99, Epoch: 5}, api.ErrGen},
		{api.Msg{Kind: api.KRotate, Gen: 2, Seq: 52, Epoch: 5}, api.ErrReplay},
		{api.Msg{Kind: api.KRotate, Gen: 2, Seq: 53, Epoch: most}, api.OK},
		{api.Msg{Kind: api.KRotate, Gen: 2, Seq: 54, Epoch: 5}, api.ErrGen},
	} {
		if _, code := o.both(t, s, recorded(x.m)); code != x.code {
			t.Errorf("%d: %+v is %d, not %d", i, x.m, code, x.code)
		}
	}
}

func TestWhatIsRefusedUsesNoNumberUp(t *testing.T) { // 19.2, T3
	c := conf.Default()
	s, o := at(t, c, 5, 0, 0)
	o.goes(t, s, recorded(api.Msg{Kind: api.KSample, Seq: 1, Epoch: 5, Value: 3}))
	for _, m := range []api.Msg{
		{Kind: api.KSample, Seq: 2, Epoch: 5},            // twice
		{Kind: api.KSample, Seq: 2, Epoch: 4},            // stale
		{Kind: api.KSample, Seq: 2, Epoch: 5, Metric: 1}, // of no metric
	} {
		if _, code := o.both(t, s, recorded(m)); code == api.OK {
			t.Fatalf("%+v is done", m)
		}
		lets(t, s, c, api.Msg{Kind: api.KBeat, Seq: 2, Epoch: 5})
	}
	o.goes(t, s, recorded(api.Msg{Kind: api.KSample, Seq: 2, Epoch: 6, Value: 4}))
}

func TestARotation(t *testing.T) { // 19.2: at the epoch now; the old key stays for the grace
	c := conf.Default()
	s, o := at(t, c, 10, 0, 0)
	o.goes(t, s, recorded(api.Msg{Kind: api.KBeat, Who: 1, Seq: 7, Epoch: 10}))
	o.goes(t, s, recorded(api.Msg{Kind: api.KRotate, Who: 1, Gen: 1, Seq: 9, Epoch: 11}))
	if h := o.sheet().collectors[1]; h != [9]uint64{1, 10, 0, 0, 9, 0b101, 0, 0, 0} {
		t.Errorf("behind it there is %v", h)
	}
	o.goes(t, s, recorded(api.Msg{Kind: api.KBeat, Who: 1, Gen: 1, Seq: 9, Epoch: 10}))
	o.goes(t, s, recorded(api.Msg{Kind: api.KBeat, Who: 1, Seq: 8, Epoch: 10}))
	o.goes(t, s, shut())
	o.goes(t, s, recorded(api.Msg{Kind: api.KBeat, Who: 1, Seq: 10, Epoch: 11}))
	o.goes(t, s, shut())
	o.stops(t, s, recorded(api.Msg{Kind: api.KBeat, Who: 1, Seq: 11, Epoch: 12}), api.ErrGen)
	o.goes(t, s, recorded(api.Msg{Kind: api.KBeat, Who: 1, Gen: 1, Seq: 11, Epoch: 12}))
}

func TestTheLastGeneration(t *testing.T) { // 19.2
	c := conf.Default()
	s, o := at(t, c, 3, 59999, 0)
	o.goes(t, s, recorded(api.Msg{Kind: api.KRotate, Gen: 60000, Seq: most, Epoch: 3}))
	o.stops(t, s, recorded(api.Msg{Kind: api.KRotate, Gen: 60001, Seq: 1, Epoch: 3}), api.ErrArg)
	o.goes(t, s, recorded(api.Msg{Kind: api.KSample, Gen: 60000, Seq: most, Epoch: 3, Value: most}))
	o.stops(t, s, recorded(api.Msg{Kind: api.KBeat, Gen: 60000, Seq: most + 1, Epoch: 3}), api.ErrArg)
}

func TestQuorums(t *testing.T) { // 19.2: just a quorum in each metric decides, one fewer in one of them holds
	for n := 1; n <= 16; n++ {
		for f := 0; 3*f < n; f++ {
			for quorum := 2*f + 1; quorum <= n; quorum++ {
				for m := 1; m <= 4; m++ {
					if n > 7 && quorum != n && quorum != 2*f+1 {
						continue
					}
					quorums(t, targets(with(func(c *api.Conf) { c.N, c.F, c.Quorum, c.Min = n, f, quorum, 4 }), []int64{1000, 500, 700, 10}[:m]...))
				}
			}
		}
	}
}

// quorums asks c for what is decided of just a quorum, of all, and of one fewer in each metric.
func quorums(t *testing.T, c api.Conf) {
	t.Helper()
	for short := -1; short <= c.M; short++ {
		s, o := at(t, c, 9, 0, 0)
		for metric := range c.M {
			many := c.Quorum
			if short == c.M { // all are there
				many = c.N
			}
			if metric == short {
				many--
			}
			for who := range many {
				m := o.of(api.KSample, (who+metric)%c.N, int64(metric)+1)
				m.Metric, m.Value = metric, int64(1000+37*who)
				if d, code := s.Do(recorded(m)); d != (api.Decision{}) || code != api.OK {
					t.Fatalf("%+v is %+v, %d", m, d, code)
				}
				o.take(m)
			}
		}
		d := o.goes(t, s, shut())
		if d.Hold != (short >= 0 && short < c.M) || d.Hold && (d != api.Decision{Epoch: 9, Replicas: 4, Hold: true}) {
			t.Fatalf("of %+v, short in %d, the decision is %+v", c, short, d)
		}
		if !d.Hold && d.Want == 0 {
			t.Fatalf("of %+v nothing is wanted: %+v", c, d)
		}
	}
}

func TestWhoIsOutDoesNotCount(t *testing.T) { // 19.2: neither for the quorum, nor for the mean
	c := with(func(c *api.Conf) { c.Min, c.CalmDown = 4, 0 })
	for out := range 4 {
		for clean := range 4 {
			s, o := at(t, c, 5, 0, 0)
			o.say(t, s, 0, 1000, 1200, 1400, 1600)
			h := o.sheet()
			h.collectors[out][7], h.collectors[out][8] = uint64(clean), 1
			o.standings[out] = api.Standing{Out: true, Clean: clean}
			s = reads(t, c, h)
			values := slices.Delete([]int64{1000, 1200, 1400, 1600}, out, out+1)
			want := api.Decision{Epoch: 5, Replicas: 0, Values: [4]int64{values[1]}}
			want.Want = int((4*values[1] + 999) / 1000)
			want.Replicas = want.Want
			if d := o.goes(t, s, shut()); d != want {
				t.Errorf("without %d: %+v, not %+v", out, d, want)
			}
			if s.Out(out) != (clean < 3) {
				t.Errorf("behind a clean of %d it is out: %v", clean, s.Out(out))
			}
		}
	}
}

func TestTwoThatAreOutLeaveNoQuorum(t *testing.T) { // 19.2
	c := conf.Default()
	s, o := at(t, c, 5, 0, 0)
	o.say(t, s, 0, 1000, 1000, 1000, 1000)
	o.standings[0], o.standings[3] = api.Standing{Out: true}, api.Standing{Out: true, Clean: 3}
	s = reads(t, c, o.sheet())
	if d := o.goes(t, s, shut()); d != (api.Decision{Epoch: 5, Replicas: 1, Hold: true}) {
		t.Errorf("%+v", d)
	}
	if s.Out(3) || !s.Out(0) {
		t.Errorf("%v", s.Standings())
	}
}

func TestWhoIsPutOutWasStillHeard(t *testing.T) { // 19.2: the score ends the epoch behind the law
	c := with(func(c *api.Conf) { c.Strikes, c.Probe, c.F, c.Quorum = 1, 1, 0, 4 })
	s, o := at(t, c, 0, 0, 0)
	o.say(t, s, 0, 1000, 1000, 1000, 9000)
	if d := o.goes(t, s, shut()); d != (api.Decision{Replicas: 3, Want: 3, Values: [4]int64{3000}}) {
		t.Errorf("%+v", d)
	}
	if !s.Out(3) {
		t.Errorf("3 is not out")
	}
	bars(t, s, c, o.of(api.KBeat, 3, 9), api.ErrWho)
	does(t, s, recorded(o.of(api.KBeat, 3, 9)), api.Decision{}, api.OK) // Do does not ask it: what is recorded was checked
	o.take(o.of(api.KBeat, 3, 9))
	o.say(t, s, 0, 1000, 1000, 1000, 1000)
	if d := o.goes(t, s, shut()); !d.Hold || s.Out(3) { // it is back only behind this epoch
		t.Errorf("%+v, %v", d, s.Standings())
	}
}

func TestSamplesAheadOfTheirEpoch(t *testing.T) { // 19.2: an epoch's own samples count; those of later ones stay
	c := with(func(c *api.Conf) { c.Fresh, c.Far = 8, most })
	s, o := at(t, c, 0, 0, 0)
	for who := range 4 {
		for ahead := int64(7); ahead >= 0; ahead-- {
			m := o.of(api.KSample, who, 8-ahead)
			m.Epoch, m.Value = ahead, 1000*(ahead+1)
			o.goes(t, s, recorded(m))
		}
	}
	for epoch := range int64(8) {
		if len(s.Samples()) != int(4*(8-epoch)) {
			t.Fatalf("at %d there are %v", epoch, s.Samples())
		}
		if d := o.goes(t, s, shut()); d.Values != [4]int64{1000 * (epoch + 1)} || d.Hold {
			t.Fatalf("%+v", d)
		}
	}
	if d := o.goes(t, s, shut()); !d.Hold || len(s.Samples()) != 0 {
		t.Errorf("%+v, %v", d, s.Samples())
	}
}

func TestAsManySamplesAsThereMayBe(t *testing.T) { // 19.2, 19.3: 16 collectors, 4 metrics, 8 epochs
	c := targets(with(func(c *api.Conf) { c.N, c.F, c.Quorum, c.Fresh, c.Window = 16, 5, 16, 8, 1 }), 1000, 1000, 1000, 1000)
	s, o := made(t, c), begun(c, 0, 0, 0)
	for place := range 16 * 4 * 8 {
		at := (place * 171) % 512
		m := api.Msg{Kind: api.KSample, Who: at % 16, Seq: int64(place) + 1, Epoch: int64(at / 64), Metric: at / 16 % 4, Value: int64(place)}
		if d, code := s.Do(recorded(m)); d != (api.Decision{}) || code != api.OK {
			t.Fatalf("%+v is %+v, %d", m, d, code)
		}
		o.take(m)
	}
	tells(t, s, o.sheet())
	if l := s.Samples(); len(l) != 512 {
		t.Fatalf("there are %d", len(l))
	}
	reads(t, c, o.sheet())
	for range 9 {
		if d := o.goes(t, s, shut()); d.Hold != (d.Epoch == 8) {
			t.Fatalf("%+v", d)
		}
	}
}

func TestTheLastEpoch(t *testing.T) { // 19.2: it may be closed up to MaxEpoch, which may not
	c := conf.Default()
	s, o := at(t, c, most-3, 0, 0)
	for range 3 {
		o.say(t, s, 0, 1000, 1000, 1000)
		if d := o.goes(t, s, shut()); d.Hold {
			t.Fatalf("%+v", d)
		}
	}
	if s.Now() != most {
		t.Fatalf("the epoch is %d", s.Now())
	}
	for range 3 {
		o.stops(t, s, shut(), api.ErrArg)
	}
	o.say(t, s, 0, 1000, 1000, 1000, 1000)
	o.goes(t, s, recorded(o.of(api.KBeat, 0, 100)))
	o.goes(t, s, recorded(o.of(api.KRotate, 0, 101)))
	m := o.of(api.KSample, 1, 300)
	m.Epoch++
	o.stops(t, s, recorded(m), api.ErrArg)
	o.stops(t, s, shut(), api.ErrArg)
	reads(t, c, o.sheet())
}

func TestTheLastDecisions(t *testing.T) { // 19.2: 64 are kept
	c := conf.Default()
	s, o := at(t, c, 0, 0, 0)
	for i := range 200 {
		if i%3 > 0 {
			o.say(t, s, 0, 1000+int64(i), 1000, 1100, 1200)
		}
		d := o.goes(t, s, shut())
		l := s.Decisions()
		if len(l) != min(i+1, 64) || l[len(l)-1] != d || l[0].Epoch != max(0, int64(i)-63) {
			t.Fatalf("behind %d there are %v", i, l)
		}
		if i >= 62 && i <= 65 {
			s = reads(t, c, o.sheet())
		}
	}
}

// counted is how often each code was told, and what else came to pass.
type counted struct {
	codes, checked       [13]int
	held, decided        int
	out, back, rotations int
}

// walk does whatever records to both, in whatever order, and asks at each step that they agree in all; and, T4, that a State which is read anew from the Bytes in between goes on as the one that never stopped.
func (k *counted) walk(t *testing.T, dice *rand.Rand, c api.Conf, now int64, steps int) {
	t.Helper()
	s, o := at(t, c, now, dice.IntN(3), max(0, now-dice.Int64N(4)))
	again := reads(t, c, o.sheet())
	liars := dice.Perm(c.N)[:c.F]
	for range steps {
		r := recorded(o.thrown(dice))
		switch dice.IntN(8) {
		case 0:
			r = shut()
		case 1:
			r.Kind = dice.IntN(5)
		case 2, 3:
			k.round(t, dice, s, again, o, liars)
			r = shut()
		}
		if fair(r.Msg) {
			k.seen(t, dice, s, o, r.Msg)
		}
		k.step(t, s, again, o, r)
		if dice.IntN(6) == 0 {
			again = reads(t, c, o.sheet())
		}
	}
}

// round lets most collectors say each metric for the epoch now.
func (k *counted) round(t *testing.T, dice *rand.Rand, s, again *State, o *told, liars []int) {
	t.Helper()
	base := []int64{1000, 1000, 900, 700, 1500, 3000}[dice.IntN(6)]
	for who := range o.c.N {
		for metric := range o.c.M {
			if dice.IntN(20) == 0 {
				continue
			}
			m := o.of(api.KSample, who, o.top(who, o.gens[who])+1)
			m.Metric, m.Value = metric, thrownValue(dice, o.c, base, slices.Contains(liars, who) || dice.IntN(60) == 0)
			k.step(t, s, again, o, recorded(m))
		}
	}
}

// seen checks m in an envelope, mostly by its own key.
func (k *counted) seen(t *testing.T, dice *rand.Rand, s *State, o *told, m api.Msg) {
	t.Helper()
	b := sealed(t, o.c, m.Who, sealing(m)+dice.IntN(9)/8, m)
	want, code := o.check(b)
	checks(t, s, b, want, code)
	k.checked[code]++
}

// step does the record to all.
func (k *counted) step(t *testing.T, s, again *State, o *told, r api.Record) {
	t.Helper()
	was := slices.Clone(o.standings)
	d, code := o.both(t, s, r)
	does(t, again, r, d, code)
	if !s.Same(again) || !again.Same(s) {
		t.Fatalf("behind %+v one that was read anew is another", r)
	}
	k.codes[code]++
	if code != api.OK {
		return
	}
	for who, is := range o.standings {
		if is.Out && !was[who].Out {
			k.out++
		}
		if !is.Out && was[who].Out {
			k.back++
		}
	}
	switch {
	case r.Kind == api.RRotate:
		k.rotations++
	case d.Hold:
		k.held++
	case r.Kind == api.RClose:
		k.decided++
	}
}

func TestAsToldASecondTime(t *testing.T) { // 19.1 to 19.4, T1, T4
	dice := rand.New(rand.NewPCG(19, 1))
	var k counted
	for i := range 70 {
		k.walk(t, dice, thrownConf(dice), []int64{0, 1, 1000, most - 60, most / 2}[i%5], 60)
	}
	for _, code := range []int{api.OK, api.ErrArg, api.ErrWho, api.ErrGen, api.ErrReplay, api.ErrStale, api.ErrTwice} {
		if k.codes[code] < 20 || k.checked[code] < 20 {
			t.Errorf("code %d was told only %d and %d times", code, k.codes[code], k.checked[code])
		}
	}
	if k.checked[api.ErrAuth] < 20 || k.held < 100 || k.decided < 100 || k.out < 20 || k.back < 20 || k.rotations < 100 {
		t.Errorf("too little came to pass: %+v", k)
	}
}

func TestTheSameRecords(t *testing.T) { // 19.4, T4: the same records give the same Bytes, wherever one was read anew from those of the other, and the other goes on as if nobody had
	dice := rand.New(rand.NewPCG(19, 4))
	for range 10 {
		c := thrownConf(dice)
		var past []api.Record
		o := begun(c, 0, 0, 0)
		for range 25 {
			r := recorded(o.thrown(dice))
			if dice.IntN(4) == 0 {
				r = shut()
			}
			past = append(past, r)
			o.do(r)
		}
		a, b := made(t, c), made(t, c)
		var files [][]byte
		for _, r := range past {
			files = append(files, a.Bytes())
			d, code := a.Do(r)
			does(t, b, r, d, code)
			if !a.Same(b) || !bytes.Equal(a.Bytes(), b.Bytes()) {
				t.Fatalf("behind %+v they are not the same", r)
			}
		}
		tells(t, a, o.sheet())
		for i, file := range files {
			x, code := From(c, file)
			if code != api.OK {
				t.Fatalf("From ahead of record %d is %d", i, code)
			}
			for _, r := range past[i:] {
				x.Do(r)
			}
			if !x.Same(a) {
				t.Fatalf("one that was read anew ahead of record %d ends otherwise", i)
			}
		}
	}
}

func TestWhatIsDoneIsDoneOnce(t *testing.T) { // T3, T4: no message goes again, however often the State is read anew
	dice := rand.New(rand.NewPCG(19, 3))
	for range 10 {
		c := thrownConf(dice)
		s, o := at(t, c, 0, 0, 0)
		var taken []api.Record
		for range 80 {
			r := recorded(o.thrown(dice))
			if dice.IntN(8) == 0 {
				r = shut()
			}
			if _, code := o.both(t, s, r); code == api.OK && r != shut() {
				taken = append(taken, r)
			}
			s = reads(t, c, o.sheet())
			for _, r := range taken {
				if d, code := s.Do(r); code == api.OK {
					t.Fatalf("%+v goes again: %+v", r, d)
				}
			}
			tells(t, s, o.sheet())
		}
	}
}

func TestWhatWasToldIsTheCallers(t *testing.T) { // rule 2: the State stays when it is changed, and no answer shares with another
	c := conf.Default()
	s, o := at(t, c, 3, 0, 0)
	o.say(t, s, 0, 1000, 1000, 1000, 5000)
	o.goes(t, s, shut())
	o.say(t, s, 0, 1000, 1000)
	b, d, x, l := s.Bytes(), s.Decisions(), s.Samples(), s.Standings()
	b2, d2, x2, l2 := s.Bytes(), s.Decisions(), s.Samples(), s.Standings()
	for i := range b[:cap(b)] {
		b[:cap(b)][i] = 7
	}
	for i := range d[:cap(d)] {
		d[:cap(d)][i] = api.Decision{Epoch: -7}
	}
	for i := range x[:cap(x)] {
		x[:cap(x)][i] = api.Sample{Who: -7}
	}
	for i := range l[:cap(l)] {
		l[:cap(l)][i] = api.Standing{Strikes: -7}
	}
	tells(t, s, o.sheet())
	o.goes(t, s, shut())
	if len(d2) != 1 || len(x2) != 2 || len(l2) != 4 || d2[0].Epoch != 3 || x2[1].Who != 1 || l2[3].Strikes != 1 || b2[0] != 4 {
		t.Errorf("one answer was changed with another, or with the State: %v, %v, %v", d2, x2, l2)
	}
}

func TestOfNil(t *testing.T) { // 19.3; and one that New did not make answers as nil does
	for _, s := range []*State{nil, {}} {
		c := conf.Default()
		for _, b := range [][]byte{nil, {}, make([]byte, 48), own(t, c, api.Msg{Kind: api.KSample, Seq: 1}), own(t, c, api.Msg{Kind: api.KBeat, Seq: 1})} {
			if m, code := s.Check(b); m != (api.Msg{}) || code != api.ErrArg {
				t.Errorf("Check is %+v, %d", m, code)
			}
		}
		for kind := range 5 {
			for of := range 5 {
				if d, code := s.Do(api.Record{Kind: kind, Msg: api.Msg{Kind: of, Seq: int64(of)}}); d != (api.Decision{}) || code != api.ErrArg {
					t.Errorf("Do is %+v, %d", d, code)
				}
			}
		}
		if len(s.Bytes())+len(s.Decisions())+len(s.Samples())+len(s.Standings()) != 0 || s.Now() != -1 || s.Count() != 0 {
			t.Errorf("it tells something: %d, %d", s.Now(), s.Count())
		}
		for _, who := range append(wild(), 0, 1, 3, 15, 16) {
			if !s.Out(int(who)) {
				t.Errorf("Out(%d) is false", who)
			}
		}
		if s.Same(s) || s.Same(nil) || s.Same(&State{}) || s.Same(made(t, c)) || made(t, c).Same(s) {
			t.Errorf("it is the same as one")
		}
	}
}

func TestTwoStates(t *testing.T) { // rule 3: each has its own
	c := conf.Default()
	a, o := at(t, c, 0, 0, 0)
	b, p := at(t, c, 0, 0, 0)
	o.say(t, a, 0, 1000, 2000, 3000)
	p.say(t, b, 0, 500, 600)
	o.goes(t, a, shut())
	tells(t, b, p.sheet())
	p.goes(t, b, shut())
	tells(t, a, o.sheet())
}

func TestTheSameEachTime(t *testing.T) { // rule 3: whatever others do at one time, with States of their own; and what only tells may be asked at one time
	dice := rand.New(rand.NewPCG(19, 9))
	c := thrownConf(dice)
	o := begun(c, 0, 0, 0)
	var past []api.Record
	for range 100 {
		r := recorded(o.thrown(dice))
		if dice.IntN(5) == 0 {
			r = shut()
		}
		past = append(past, r)
		o.do(r)
	}
	want, one := o.sheet().bytes(), reads(t, c, o.sheet())
	e := own(t, c, o.of(api.KBeat, 0, most))
	m, code := one.Check(e)
	var all sync.WaitGroup
	for range 8 {
		all.Go(func() {
			s := New(c)
			for _, r := range past {
				s.Do(r)
			}
			got, again := one.Check(e)
			if !bytes.Equal(s.Bytes(), want) || !bytes.Equal(one.Bytes(), want) || !one.Same(s) || got != m || again != code {
				t.Error("what is told hangs on more than the calls")
			}
		})
	}
	all.Wait()
}
