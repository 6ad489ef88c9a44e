package state

import (
	"bytes"
	"encoding/binary"
	"math"
	"math/rand/v2"
	"slices"
	"testing"

	"quorumite/api"
	"quorumite/conf"
)

// roomy is four collectors and two metrics: fresh 3, window 8, from 2 to 50, four wants and three counts that are kept, three strikes and a probe of four.
func roomy() api.Conf {
	return targets(with(func(c *api.Conf) {
		c.Fresh, c.Window, c.Min, c.Max, c.CalmUp, c.Period = 3, 8, 2, 50, 1, 3
	}), 1000, 500)
}

// full is a sheet of roomy in which there is something of each kind.
func full() sheet {
	return sheet{
		epoch: 10,
		collectors: [][9]uint64{
			{0, 0, 0, 0, 0, 0, 0, 0, 0},
			{3, 9, 20, 0b10010011, 40, 1, 2, 0, 0},
			{1, 4, 2, 0b11, 7, 0b1111111, 0, 3, 1},
			{60000, 10, 1 << 40, 0b10000001, 1 << 40, 0b11111111, 0, 0, 1},
		},
		wants:  []uint64{5, 0, 1000000},
		counts: []uint64{2, 50, 7},
		count:  7,
		samples: [][4]uint64{
			{10, 0, 1, 500}, {10, 0, 3, 0}, {10, 1, 1, 1 << 40}, {11, 0, 0, 7}, {12, 1, 3, 8},
		},
		decisions: [][8]uint64{
			{8, 2, 0, 1, 0, 0, 0, 0}, {9, 50, 1000000, 0, 1 << 40, 3, 0, 0}, {1 << 40, 3, 3, 1, 1, 2, 3, 4},
		},
	}
}

// answers asks From of b against what the rules tell, and that it leaves b as it is.
func answers(t *testing.T, c api.Conf, b []byte) bool {
	t.Helper()
	were, may := bytes.Clone(b), stands(c, b)
	s, code := From(c, b)
	switch {
	case may && (s == nil || code != api.OK):
		t.Fatalf("From of %v is %v, %d", b, s, code)
	case !may && (s != nil || code != api.ErrBytes):
		t.Fatalf("From of %v is %v, %d, not ErrBytes", b, s, code)
	case may && !bytes.Equal(s.Bytes(), b):
		t.Fatalf("From of\n%v\nhas Bytes\n%v", b, s.Bytes())
	}
	if !bytes.Equal(b, were) {
		t.Fatalf("From changed %v to %v", were, b)
	}
	return may
}

// takes asks that the sheet is a State's, which then tells it.
func takes(t *testing.T, c api.Conf, h sheet) {
	t.Helper()
	if !answers(t, c, h.bytes()) {
		t.Fatalf("by the rules %+v may not be", h)
	}
	reads(t, c, h)
}

// refuses asks that the sheet is no State's.
func refuses(t *testing.T, c api.Conf, h sheet) {
	t.Helper()
	if answers(t, c, h.bytes()) {
		t.Fatalf("by the rules %+v may be", h)
	}
}

func TestBytesOfANewOne(t *testing.T) { // 19.3: by hand
	want := make([]uint64, 1+9*4+1+1+1+1+1+1)
	want[1+36+1], want[1+36+2], want[1+36+3] = 1, 1, 1 // one count is kept, which is one, and that is the count
	b := made(t, conf.Default()).Bytes()
	if !bytes.Equal(b, laid(want)) {
		t.Errorf("Bytes are %v", b)
	}
	s, code := From(conf.Default(), b)
	if code != api.OK || !s.Same(New(conf.Default())) {
		t.Errorf("From is %v, %d", s, code)
	}
	takes(t, roomy(), full())
}

func TestEachNumberHasItsPlace(t *testing.T) { // 19.3: eight bytes each, the lowest first
	h := full()
	l := h.numbers()
	s := reads(t, roomy(), h)
	b := s.Bytes()
	if len(b) != 8*len(l) {
		t.Fatalf("%d numbers are %d bytes", len(l), len(b))
	}
	for i, n := range l {
		for j := range 8 {
			if b[8*i+j] != byte(n>>(8*j)) {
				t.Fatalf("number %d, %x, stands there as %x", i, n, b[8*i:8*i+8])
			}
		}
	}
}

func TestBytesThatAreCutOff(t *testing.T) { // 19.3: at each length ErrBytes
	for _, b := range [][]byte{made(t, roomy()).Bytes(), full().bytes()} {
		for n := range b {
			if answers(t, roomy(), b[:n:n]) || answers(t, roomy(), b[:n]) {
				t.Fatalf("%d of %d bytes are enough", n, len(b))
			}
		}
	}
}

func TestBytesWithMoreBehind(t *testing.T) { // 19.3
	for _, b := range [][]byte{made(t, roomy()).Bytes(), full().bytes()} {
		for n := 1; n <= 80; n++ {
			for _, x := range []byte{0, 1, 255} {
				if answers(t, roomy(), slices.Concat(b, bytes.Repeat([]byte{x}, n))) {
					t.Fatalf("%d bytes %d more are let", n, x)
				}
			}
		}
		if answers(t, roomy(), slices.Concat(b, b)) {
			t.Fatalf("twice the same is let")
		}
	}
}

func TestEachByteTurned(t *testing.T) { // 19.3: each to each other one
	may := 0
	for _, b := range [][]byte{made(t, roomy()).Bytes(), full().bytes()} {
		for i := range b {
			for turn := 1; turn < 256; turn++ {
				x := bytes.Clone(b)
				x[i] ^= byte(turn)
				if answers(t, roomy(), x) {
					may++
				}
			}
		}
	}
	if may < 1000 {
		t.Errorf("only %d may be", may)
	}
}

func TestEachByteTurnedBehindManySteps(t *testing.T) { // 19.3
	dice := rand.New(rand.NewPCG(19, 6))
	c := roomy()
	s, o := at(t, c, 0, 0, 0)
	for range 300 {
		r := recorded(o.thrown(dice))
		if dice.IntN(4) == 0 {
			r = shut()
		}
		o.both(t, s, r)
	}
	b := s.Bytes()
	for i := range b {
		for _, turn := range []byte{1, 2, 128, 255} {
			x := bytes.Clone(b)
			x[i] ^= turn
			answers(t, c, x)
		}
	}
}

func TestEachNumberChanged(t *testing.T) { // 19.3: one below, one above, and to what it may never be
	for _, h := range []sheet{begun(roomy(), 5, 0, 0).sheet(), full()} {
		l := h.numbers()
		for i, was := range l {
			for _, n := range []uint64{was - 1, was + 1, was - 2, was + 2, 0, 1, was + 1<<32, was - 1<<32, was + 1<<40, was + 1<<63, was | 1<<62, 1 << 40, 1<<40 + 1, math.MaxUint64, 1 << 63, math.MaxInt64} {
				l[i] = n
				answers(t, roomy(), laid(l))
			}
			l[i] = was
			answers(t, roomy(), laid(slices.Delete(slices.Clone(l), i, i+1)))
			for _, n := range []uint64{0, 1, was, was + 1} {
				answers(t, roomy(), laid(slices.Insert(slices.Clone(l), i, n)))
			}
			if i > 0 {
				l[i], l[i-1] = l[i-1], l[i]
				answers(t, roomy(), laid(l))
				l[i], l[i-1] = l[i-1], l[i]
			}
		}
	}
}

// edge is a number of a sheet with what it may be and what it may not.
type edge struct {
	name        string
	at          func(h *sheet) *uint64
	may, mayNot []uint64
}

// holds asks of each number of an edge, in that sheet, whether it may be.
func (e edge) holds(t *testing.T, c api.Conf, h sheet) {
	t.Helper()
	for _, n := range e.may {
		x := h.copied()
		*e.at(&x) = n
		if !stands(c, x.bytes()) {
			t.Fatalf("by the rules %s may not be %d", e.name, n)
		}
		takes(t, c, x)
	}
	for _, n := range slices.Concat(e.mayNot, []uint64{1 << 41, 1 << 48, 1 << 62, math.MaxInt64, 1 << 63, 1<<63 + 1, math.MaxUint64 - 1, math.MaxUint64}) {
		x := h.copied()
		*e.at(&x) = n
		if stands(c, x.bytes()) {
			t.Fatalf("by the rules %s may be %d", e.name, n)
		}
		refuses(t, c, x)
	}
}

// bare is full without samples.
func bare() sheet {
	h := full()
	h.samples = nil
	return h
}

func TestTheEpochAtTheEdges(t *testing.T) { // 19.3: from 0 to MaxEpoch; with samples, one that they may be put at
	edge{"the epoch", func(h *sheet) *uint64 { return &h.epoch }, []uint64{0, 1, 9, 11, 1 << 32, most - 1, most}, []uint64{most + 1}}.holds(t, roomy(), bare())
	edge{"the epoch of samples", func(h *sheet) *uint64 { return &h.epoch }, []uint64{10}, []uint64{0, 8, 9, 11, 12, 13}}.holds(t, roomy(), full())
}

func TestACollectorAtTheEdges(t *testing.T) { // 19.3: generation, since when, tops, strikes, clean and out, of each collector
	for who := range 4 {
		of := func(i int) func(h *sheet) *uint64 { return func(h *sheet) *uint64 { return &h.collectors[who][i] } }
		up, out := bare(), bare()
		for _, h := range []sheet{up, out} {
			h.collectors[who] = [9]uint64{5, 5, 9, 1, 9, 1, 0, 0, 0}
		}
		out.collectors[who][8] = 1
		many := []uint64{65536, 1 << 32, 1<<32 + 1, most, most + 1}
		edge{"the generation", of(0), []uint64{0, 1, 59999, 60000}, append(many, 60001)}.holds(t, roomy(), up)
		edge{"since when", of(1), []uint64{0, 1, 11, 65536, 1 << 32, most - 1, most}, []uint64{most + 1}}.holds(t, roomy(), up)
		edge{"the top", of(2), []uint64{1, 2, 1 << 32, most - 1, most}, []uint64{0, most + 1}}.holds(t, roomy(), up)
		edge{"the old top", of(4), []uint64{1, 2, 1 << 32, most - 1, most}, []uint64{0, most + 1}}.holds(t, roomy(), up)
		edge{"strikes", of(6), []uint64{0, 1, 2}, append(many, 3, 4)}.holds(t, roomy(), up)
		edge{"strikes of one that is out", of(6), []uint64{0}, append(many, 1, 2, 3)}.holds(t, roomy(), out)
		edge{"clean", of(7), []uint64{0}, append(many, 1, 2, 3)}.holds(t, roomy(), up)
		edge{"clean of one that is out", of(7), []uint64{0, 1, 2, 3}, append(many, 4, 5)}.holds(t, roomy(), out)
		edge{"out", of(8), []uint64{0, 1}, append(many, 2, 3, 255, 256, 257)}.holds(t, roomy(), up)
		up.collectors[who][6] = 2
		edge{"out of one with strikes", of(8), []uint64{0}, append(many, 1, 2)}.holds(t, roomy(), up)
		out.collectors[who][7] = 2
		edge{"out of one that was clean", of(8), []uint64{1}, append(many, 0, 2)}.holds(t, roomy(), out)
	}
}

func TestBitsAtTheEdges(t *testing.T) { // 19.3: none beyond the window, none of a number below 1, the lowest just if there is a top; of both Replays, for each window
	for window := 1; window <= 64; window++ {
		c := roomy()
		c.Window = window
		for _, at := range []int{2, 4} {
			for _, top := range []uint64{0, 1, 2, uint64(window) - 1, uint64(window), uint64(window) + 1, 63, 64, 65, most} {
				h := begun(c, 5, 1, 0).sheet()
				for _, bit := range []int{0, 1, 2, window - 2, window - 1, window, window + 1, int(min(top, 63)), 62, 63} {
					bit = min(max(bit, 0), 63)
					for _, bits := range []uint64{0, 1, 1 << bit, 1<<bit | 1, 1<<bit - 1, math.MaxUint64 >> bit, math.MaxUint64 << bit} {
						h.collectors[3][at], h.collectors[3][at+1] = top, bits
						answers(t, c, h.bytes())
					}
				}
				h.collectors[3][at+1] = uint64(1)<<min(uint64(window), top) - 1 // all that may be
				takes(t, c, h)
			}
		}
	}
}

func TestWantsAtTheEdges(t *testing.T) { // 19.3: no more than Calm keeps, each from 0 to a million
	for up := range 4 {
		for down := range 4 {
			c := roomy()
			c.CalmUp, c.CalmDown = up, down
			for n := range 8 {
				h := full()
				h.wants = slices.Repeat([]uint64{9}, n)
				if n > max(up, down)+1 {
					refuses(t, c, h)
					continue
				}
				takes(t, c, h)
				for i := range n {
					edge{"a want", func(h *sheet) *uint64 { return &h.wants[i] }, []uint64{0, 1, 999999, 1000000}, []uint64{1000001, 1 << 32, 1<<32 + 9, most}}.holds(t, c, h)
				}
			}
		}
	}
	c := roomy()
	c.CalmDown = 60
	h := full()
	h.wants = slices.Repeat([]uint64{1000000}, 61)
	takes(t, c, h)
	h.wants = append(h.wants, 0)
	refuses(t, c, h)
}

func TestCountsAtTheEdges(t *testing.T) { // 19.3: one at least, no more than a period, each from Min to Max; the count is the last of them
	for period := 1; period <= 4; period++ {
		c := roomy()
		c.Period = period
		for n := range 7 {
			h := full()
			h.counts = slices.Repeat([]uint64{7}, n)
			if n < 1 || n > period {
				refuses(t, c, h)
				h.count = 0
				refuses(t, c, h)
				h.count = 2
				refuses(t, c, h)
				continue
			}
			takes(t, c, h)
			for i := range n - 1 {
				edge{"a count", func(h *sheet) *uint64 { return &h.counts[i] }, []uint64{2, 3, 49, 50}, []uint64{0, 1, 51, 1 << 32, 1<<32 + 7, most}}.holds(t, c, h)
			}
			edge{"the count", func(h *sheet) *uint64 { return &h.count }, []uint64{7}, []uint64{0, 1, 2, 6, 8, 50, 51, 1<<32 + 7, most}}.holds(t, c, h)
			edge{"the last count", func(h *sheet) *uint64 { return &h.counts[n-1] }, []uint64{7}, []uint64{0, 1, 2, 6, 8, 50, 51, 1<<32 + 7, most}}.holds(t, c, h)
			for _, last := range []uint64{0, 1, 2, 3, 49, 50, 51, 10000, 10001, 1<<32 + 7, most, 1 << 63, math.MaxUint64} {
				h.count, h.counts[n-1] = last, last
				if last < 2 || last > 50 {
					refuses(t, c, h)
				} else {
					takes(t, c, h)
				}
			}
		}
	}
}

func TestTheLastCountAloneIsTheCount(t *testing.T) { // 19.3: not another one that is kept, nor Min
	for _, count := range []uint64{2, 50, 8, 0} {
		h := full() // 2, 50, 7
		h.count = count
		refuses(t, roomy(), h)
	}
}

func TestHowManyAtTheEdges(t *testing.T) { // 19.3: just these numbers
	for i := range 4 {
		for _, more := range []uint64{1, 2, 3, 4, 8, 1 << 20, 1 << 32, 1 << 60, 1 << 61, 1<<61 + 1, 1 << 62, 1<<63 - 1, 1 << 63, 1<<63 + 1, math.MaxUint64, math.MaxUint64 - 1, math.MaxUint64 - 2, math.MaxUint64 - 4} {
			for _, h := range []sheet{full(), bare(), begun(roomy(), 3, 0, 0).sheet()} {
				h.more[i] = more
				answers(t, roomy(), h.bytes())
			}
		}
	}
	for i := range 4 {
		for _, more := range []uint64{1, math.MaxUint64} {
			h := full()
			h.more[i] = more
			h.counts[0] = 3 // by two, a fourth want and two counts would be there
			refuses(t, roomy(), h)
		}
	}
}

func TestASampleAtTheEdges(t *testing.T) { // 19.3: as Table.Put takes it at the epoch
	one := bare()
	one.samples = [][4]uint64{{10, 1, 2, 5}}
	of := func(i int) func(h *sheet) *uint64 { return func(h *sheet) *uint64 { return &h.samples[0][i] } }
	edge{"a sample's epoch", of(0), []uint64{10, 11, 12}, []uint64{0, 9, 13, 1<<32 + 10, most}}.holds(t, roomy(), one)
	edge{"a sample's metric", of(1), []uint64{0, 1}, []uint64{2, 3, 4, 1 << 32, 1<<32 + 1, most}}.holds(t, roomy(), one)
	edge{"a sample's who", of(2), []uint64{0, 1, 2, 3}, []uint64{4, 15, 16, 1 << 32, 1<<32 + 1, most}}.holds(t, roomy(), one)
	edge{"a sample's value", of(3), []uint64{0, 1, 1 << 32, most - 1, most}, []uint64{most + 1}}.holds(t, roomy(), one)
	one.epoch, one.samples[0][0] = most, most
	edge{"a sample's epoch at the end", of(0), []uint64{most, most + 1, most + 2}, []uint64{0, most - 1, most + 3}}.holds(t, roomy(), one) // of which the words ask only whether the Table takes it
}

func TestSamplesInOrder(t *testing.T) { // 19.3: as Table.All tells them, and none twice
	all := full().samples
	for i := range all {
		for j := range all {
			h := full()
			h.samples[i], h.samples[j] = all[j], all[i]
			if i == j {
				takes(t, roomy(), h)
			} else {
				refuses(t, roomy(), h)
			}
			h = full()
			h.samples = slices.Insert(h.samples, i, all[j])
			refuses(t, roomy(), h)
			h.samples[i][3] ^= 1
			refuses(t, roomy(), h)
		}
		h := full()
		h.samples = slices.Delete(h.samples, i, i+1)
		takes(t, roomy(), h)
	}
	h := bare()
	for epoch := range uint64(3) {
		for metric := range uint64(2) {
			for who := range uint64(4) {
				h.samples = append(h.samples, [4]uint64{10 + epoch, metric, who, most - who})
			}
		}
	}
	takes(t, roomy(), h)
	for i := 1; i < len(h.samples); i++ {
		x := h.copied()
		x.samples[i], x.samples[i-1] = x.samples[i-1], x.samples[i]
		refuses(t, roomy(), x)
	}
	h.samples = append(h.samples, h.samples[23])
	refuses(t, roomy(), h)
}

func TestSamplesOfOneThatIsOut(t *testing.T) { // 19.3: they may be there
	h := full()
	h.samples = [][4]uint64{{10, 0, 2, 5}, {10, 0, 3, 6}}
	takes(t, roomy(), h)
}

func TestADecisionAtTheEdges(t *testing.T) { // 19.3: each part of each decision
	for i := range 3 {
		of := func(j int) func(h *sheet) *uint64 { return func(h *sheet) *uint64 { return &h.decisions[i][j] } }
		edge{"a decision's epoch", of(0), []uint64{0, 1, 10, 11, 1 << 32, most - 1, most}, []uint64{most + 1}}.holds(t, roomy(), full())
		edge{"replicas", of(1), []uint64{2, 3, 49, 50}, []uint64{0, 1, 51, 1 << 32, 1<<32 + 2, most}}.holds(t, roomy(), full())
		edge{"a want of a decision", of(2), []uint64{0, 1, 999999, 1000000}, []uint64{1000001, 1 << 32, most}}.holds(t, roomy(), full())
		edge{"hold", of(3), []uint64{0, 1}, []uint64{2, 3, 255, 256, 257, 1 << 32, 1<<32 + 1, most}}.holds(t, roomy(), full())
		for j := 4; j < 8; j++ {
			edge{"a value of a decision", of(j), []uint64{0, 1, 1 << 32, most - 1, most}, []uint64{most + 1}}.holds(t, roomy(), full())
		}
	}
}

func TestHowManyDecisions(t *testing.T) { // 19.3: at most 64, whatever they are
	for _, n := range []int{0, 1, 2, 63, 64, 65, 66, 127, 128, 129, 200, 1000} {
		h := full()
		h.decisions = nil
		for i := range n {
			h.decisions = append(h.decisions, [8]uint64{uint64(i), 2 + uint64(i%49), uint64(i), uint64(i % 2), uint64(i)})
		}
		if n > 64 {
			refuses(t, roomy(), h)
			continue
		}
		takes(t, roomy(), h)
		if n > 0 {
			h.decisions[n-1][1] = 51
			refuses(t, roomy(), h)
			h.decisions[n-1][1], h.decisions[0][1] = 2, 1
			refuses(t, roomy(), h)
		}
	}
}

func TestOneWrongAmongTooManyDecisions(t *testing.T) { // 19.3: also where only those that are kept would be well
	h := full()
	h.decisions = slices.Repeat([][8]uint64{{1, 2, 2, 0, 5}}, 65)
	h.decisions[0] = [8]uint64{1, 1}
	refuses(t, roomy(), h)
	h.more[3] = math.MaxUint64 // tells 64 of them
	refuses(t, roomy(), h)
}

func TestBytesByAnotherConfiguration(t *testing.T) { // 19.3: as far as its own rules take them
	dice := rand.New(rand.NewPCG(19, 7))
	may := 0
	for range 3000 {
		c := roomy()
		p := parts()[dice.IntN(len(parts()))]
		p.put(&c, p.may[dice.IntN(len(p.may))])
		if !conf.May(c) {
			continue
		}
		if answers(t, c, full().bytes()) {
			may++
		}
	}
	if may < 100 {
		t.Errorf("only %d may be", may)
	}
}

func TestFromOfAnyBytes(t *testing.T) { // 19.3: a few numbers of a State that was walked to are changed, put in or taken away
	dice := rand.New(rand.NewPCG(19, 8))
	may := 0
	for range 150 {
		c := thrownConf(dice)
		o := begun(c, dice.Int64N(100), dice.IntN(3), 0)
		for range 60 {
			r := recorded(o.thrown(dice))
			if dice.IntN(4) == 0 {
				r = shut()
			}
			o.do(r)
		}
		l := o.sheet().numbers()
		for range 150 {
			x := slices.Clone(l)
			for range 1 + dice.IntN(3) {
				x = bent(dice, x)
			}
			b := laid(x)
			if dice.IntN(20) == 0 {
				b = b[:dice.IntN(len(b)+1)]
			}
			if answers(t, c, b) {
				may++
			}
		}
	}
	if may < 500 {
		t.Errorf("only %d may be", may)
	}
}

// bent is numbers of which one is another, or there or gone, or in another place.
func bent(dice *rand.Rand, l []uint64) []uint64 {
	i, j := dice.IntN(len(l)), dice.IntN(len(l))
	switch dice.IntN(10) {
	case 0:
		l[i], l[j] = l[j], l[i]
	case 1:
		return slices.Insert(l, i, l[j])
	case 2:
		return slices.Delete(l, min(i, len(l)-2), min(i, len(l)-2)+1)
	case 3:
		l[i] = uint64(wild()[dice.IntN(len(wild()))])
	case 4:
		l[i] ^= 1 << dice.IntN(64)
	case 5:
		l[i] = l[j]
	default:
		l[i] += dice.Uint64N(5) - 2
	}
	return l
}

func TestFromOfRawBytes(t *testing.T) { // 19.3, rule 1: whatever they are
	dice := rand.New(rand.NewPCG(19, 5))
	for n := range 1200 {
		b := make([]byte, n)
		answers(t, roomy(), b)
		for i := range b {
			b[i] = byte(dice.IntN(256))
		}
		answers(t, roomy(), b)
		answers(t, roomy(), bytes.Repeat([]byte{255}, n))
	}
}

func TestAsManyAsNobodyHasRoomFor(t *testing.T) { // 19.3, rule 1: many wants, counts, samples or decisions that are really there
	for i := range 4 {
		h := full()
		switch i {
		case 0:
			h.wants = make([]uint64, 1<<16)
		case 1:
			h.counts = slices.Repeat([]uint64{7}, 1<<16)
		case 2:
			h.samples = slices.Repeat([][4]uint64{{10, 0, 0, 0}}, 1<<16)
		case 3:
			h.decisions = slices.Repeat([][8]uint64{{1, 2}}, 1<<16)
		}
		refuses(t, roomy(), h)
	}
}

func TestFromKeepsNothing(t *testing.T) { // rule 2: the bytes may be changed behind it, and two that are read from them have nothing together
	b := full().bytes()
	s, _ := From(roomy(), b)
	x, _ := From(roomy(), b)
	clear(b)
	tells(t, s, full())
	if d, code := x.Do(shut()); code != api.OK || s.Same(x) || !d.Hold {
		t.Errorf("%+v, %d", d, code)
	}
	tells(t, s, full())
}

func TestOneThatIsReadGoesOn(t *testing.T) { // 19.3, 19.4: by what was kept, by hand
	h := full()
	h.wants, h.counts, h.count = []uint64{20, 20, 20}, []uint64{10, 10, 10}, 10
	h.samples = [][4]uint64{{10, 0, 0, 1000}, {10, 0, 1, 1000}, {10, 1, 0, 400}, {10, 1, 1, 500}}
	h.collectors[2] = [9]uint64{0, 0, 9, 0b101, 0, 0, 1, 0, 0}
	s := reads(t, roomy(), h)
	does(t, s, recorded(api.Msg{Kind: api.KSample, Who: 2, Seq: 9, Epoch: 10, Value: 3000}), api.Decision{}, api.ErrReplay)
	does(t, s, recorded(api.Msg{Kind: api.KSample, Who: 2, Seq: 8, Epoch: 10, Value: 3000}), api.Decision{}, api.OK)
	does(t, s, recorded(api.Msg{Kind: api.KSample, Who: 2, Seq: 10, Epoch: 10, Metric: 1, Value: 900}), api.Decision{}, api.OK)
	does(t, s, recorded(api.Msg{Kind: api.KBeat, Who: 1, Gen: 2, Seq: 40, Epoch: 10}), api.Decision{}, api.ErrReplay)
	does(t, s, recorded(api.Msg{Kind: api.KBeat, Who: 1, Gen: 2, Seq: 39, Epoch: 10}), api.Decision{}, api.OK)
	does(t, s, shut(), api.Decision{Epoch: 10, Replicas: 10, Want: 10, Values: [4]int64{1000, 500}}, api.OK)
	if l := s.Standings(); !slices.Equal(l, []api.Standing{{}, {Strikes: 1}, {Strikes: 2}, {Clean: 1, Out: true}}) {
		t.Errorf("Standings are %v", l)
	}
	if d := s.Decisions(); len(d) != 4 || d[3].Replicas != 10 || d[0].Epoch != 8 {
		t.Errorf("Decisions are %v", d)
	}
}

func TestSame(t *testing.T) { // 19.3: of one Conf, with the same Bytes
	for _, p := range parts() { // two configurations, by which all Bytes are the same
		for _, n := range p.may {
			c := with(func(c *api.Conf) { p.put(c, n) })
			a, b := made(t, conf.Default()), made(t, c)
			if want := c == conf.Default(); a.Same(b) != want || b.Same(a) != want {
				t.Errorf("with %s %d Same is %v, %v", p.name, n, a.Same(b), b.Same(a))
			}
			if !b.Same(b) || !b.Same(made(t, c)) {
				t.Errorf("one with %s %d is not the same as itself", p.name, n)
			}
		}
	}
	s := reads(t, roomy(), full())
	if s.Same(nil) || (*State)(nil).Same(s) || s.Same(&State{}) || (&State{}).Same(s) {
		t.Errorf("it is the same as nil")
	}
	b := full().bytes()
	for i := range b {
		for turn := 1; turn < 256; turn *= 2 {
			x := bytes.Clone(b)
			x[i] ^= byte(turn)
			o, code := From(roomy(), x)
			if code == api.OK && (s.Same(o) || o.Same(s)) {
				t.Fatalf("with byte %d turned it is the same", i)
			}
		}
	}
}

func TestTheTellingItself(t *testing.T) { // the rules by which From is judged take what is made, and not all
	if !stands(roomy(), full().bytes()) || stands(roomy(), nil) || stands(roomy(), full().bytes()[:8]) {
		t.Errorf("the test is wrong")
	}
	if binary.LittleEndian.Uint64(full().bytes()) != 10 {
		t.Errorf("the test is wrong")
	}
}
