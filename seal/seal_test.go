package seal

import (
	"bytes"
	"encoding/hex"
	"math"
	"math/rand/v2"
	"sync"
	"testing"

	"quorumite/api"
	"quorumite/mac"
	"quorumite/wire"
)

const (
	seed = 7
	ones = math.MaxUint64
	last = 1 << 40 // the greatest number, epoch and value
)

// ends are numbers at the ends of their kind, and where a smaller kind would wrap round to what may be.
func ends() []int64 {
	return []int64{math.MinInt64, math.MinInt64 + 1, -1 << 40, -1 << 32, -256, -16, -2, -1, 1<<32 + 1, 1 << 48, 1<<62 + 1, math.MaxInt64 - 1, math.MaxInt64}
}

// calls are each kind of envelope, of what may be.
func calls() map[int]func(s *Sealer) ([]byte, int) {
	return map[int]func(s *Sealer) ([]byte, int){
		api.KSample: func(s *Sealer) ([]byte, int) { return s.Sample(0, 0, 0) },
		api.KRotate: func(s *Sealer) ([]byte, int) { return s.Rotate(0) },
		api.KBeat:   func(s *Sealer) ([]byte, int) { return s.Beat(0) },
	}
}

// made is a Sealer of which it is known that it may be.
func made(t *testing.T, who int) *Sealer {
	t.Helper()
	s := New(seed, who)
	if s == nil {
		t.Fatalf("New of %d is nil", who)
	}
	return s
}

// at is a Sealer that stands where only many calls would bring it.
func at(t *testing.T, who int, gen, seq int64) *Sealer {
	t.Helper()
	s := made(t, who)
	s.gen.Store(gen)
	s.seq.Store(seq)
	return s
}

// stands holds where s stands against what is asked for.
func stands(t *testing.T, s *Sealer, gen int, seq int64) {
	t.Helper()
	if s.Gen() != gen || s.Seq() != seq {
		t.Errorf("it stands at generation %d, number %d, not at %d, %d", s.Gen(), s.Seq(), gen, seq)
	}
}

// seals holds an answer of s against the envelope of m, under the key of the generation gen, and s's own place behind it against m: a rotation's number was of the generation ahead.
func seals(t *testing.T, s *Sealer, e []byte, code int, of uint64, gen int, m api.Msg) {
	t.Helper()
	want, may := wire.Seal(mac.Of(of, m.Who, gen), m)
	if may != api.OK {
		t.Errorf("%+v may not be", m)
		return
	}
	if !bytes.Equal(e, want) || code != api.OK {
		t.Errorf("of %+v: %x, %d, not %x", m, e, code, want)
	}
	if m.Kind == api.KRotate {
		stands(t, s, m.Gen, 0)
	} else {
		stands(t, s, m.Gen, m.Seq)
	}
}

// refuses holds an answer of s against ErrArg and nothing, and s's place against the one ahead.
func refuses(t *testing.T, s *Sealer, e []byte, code, gen int, seq int64) {
	t.Helper()
	if e != nil || code != api.ErrArg {
		t.Errorf("%x, %d", e, code)
	}
	stands(t, s, gen, seq)
}

// goesOn holds s's next envelopes of each kind against those that follow where it stood.
func goesOn(t *testing.T, s *Sealer, who, gen int, seq int64) {
	t.Helper()
	e, code := s.Sample(3, 9, 77)
	seals(t, s, e, code, seed, gen, api.Msg{Kind: api.KSample, Who: who, Gen: gen, Seq: seq + 1, Epoch: 9, Metric: 3, Value: 77})
	e, code = s.Beat(9)
	seals(t, s, e, code, seed, gen, api.Msg{Kind: api.KBeat, Who: who, Gen: gen, Seq: seq + 2, Epoch: 9})
	e, code = s.Rotate(9)
	seals(t, s, e, code, seed, gen, api.Msg{Kind: api.KRotate, Who: who, Gen: gen + 1, Seq: seq + 3, Epoch: 9})
}

func TestNewAtTheEdges(t *testing.T) { // 7.1
	for _, who := range append(ends(), 0, 1, 7, 14, 15, 16, 17, 31, 32, 255, 256, 271, 1<<32+15) {
		for _, of := range []uint64{0, 1, seed, 1 << 63, ones} {
			if s := New(of, int(who)); (s != nil) != (who >= 0 && who <= 15) {
				t.Errorf("New of the seed %d and %d is %v", of, who, s)
			}
		}
	}
}

func TestNewBegins(t *testing.T) { // 7.1
	for who := range 16 {
		s := made(t, who)
		stands(t, s, 0, 0)
		goesOn(t, s, who, 0, 0)
	}
}

func TestExample(t *testing.T) { // the chapter's: with whichever of the three it begins, the first has number 1
	for kind, call := range calls() {
		e, _ := call(made(t, 4))
		if m, _, _, code := wire.Split(e); code != api.OK || m.Seq != 1 || m.Kind != kind || m.Who != 4 {
			t.Errorf("the first of kind %d is %+v, %d", kind, m, code)
		}
	}
	s := made(t, 4)
	s.Sample(0, 0, 0)
	stands(t, s, 0, 1)
}

// elsewhere are the envelopes that another program, written from the chapters, makes of the same nine calls.
func elsewhere() map[uint64][]string {
	return map[uint64][]string{
		1: { // of 0
			"010100000000000001000000000000000000000000000000dc0500000000000002f767ccc8e5ea15392d81d2e1f01729",
			"0101000300000000020000000000000000000000000100000000000000010000b0fb29dbd99c470735af000255bd1421",
			"0103000000000000030000000000000005000000000000000000000000000000ae1bb9ae5a200dff6e83e75fceb66e10",
			"0102000001000000040000000000000005000000000000000000000000000000b36f060470bdcdaad9f739f449153d9c",
			"010100020100000001000000000000000600000000000000070000000000000031ace53304c2f42f370ad5fd26b6556f",
			"0103000001000000020000000000000000000000000100000000000000000000fa0e84ce854c2ae4bc9efaab50239412",
			"0102000002000000030000000000000000000000000100000000000000000000e691f6584455f994ad529c08c5f8881d",
			"01020000030000000100000000000000000000000000000000000000000000006562dd84b5c4af9c61acdcea75502c96",
			"010300000300000001000000000000000000000000000000000000000000000046c279706af14625a1188cb85b15cc6c",
		},
		ones: { // of 15
			"01010f000000000001000000000000000000000000000000dc0500000000000010d5e0949718e25d334f75d87a698eb7",
			"01010f0300000000020000000000000000000000000100000000000000010000196c5fcad9c758895b15b1674e5f0c52",
			"01030f0000000000030000000000000005000000000000000000000000000000b691e142bf346fee5922b5b3d6a380bc",
			"01020f000100000004000000000000000500000000000000000000000000000009525865eb6961ba2fed25a4233951db",
			"01010f0201000000010000000000000006000000000000000700000000000000e7760e264e16ea862fe6783e5c7164cd",
			"01030f00010000000200000000000000000000000001000000000000000000002f0bd23ffcc4b47f1cee835e7b896970",
			"01020f000200000003000000000000000000000000010000000000000000000045c82ab43cfe5b4a96fcf652d855467c",
			"01020f0003000000010000000000000000000000000000000000000000000000f9a0e7abc32e2d2f80b2bd5c58d61a2a",
			"01030f0003000000010000000000000000000000000000000000000000000000356f79e450f4b5d55fc13beb1e0a7f0f",
		},
		0: { // of 7
			"010107000000000001000000000000000000000000000000dc050000000000004cd3246a0304ab11855504f0031dbaa5",
			"0101070300000000020000000000000000000000000100000000000000010000a180c2a54ece967415a523dfd69a433f",
			"0103070000000000030000000000000005000000000000000000000000000000e2cde1c796f4f48210176812275b1f10",
			"0102070001000000040000000000000005000000000000000000000000000000fc7faa0650b438c08b403b133aaf298e",
			"0101070201000000010000000000000006000000000000000700000000000000a91887d0aad4a2a59cb57cdb614753ef",
			"010307000100000002000000000000000000000000010000000000000000000066631d50392795563b43bb097b7a81a0",
			"0102070002000000030000000000000000000000000100000000000000000000d5aa4291744cec1cee75d6670d261d77",
			"01020700030000000100000000000000000000000000000000000000000000005bc43a3aa99d2d53640362e8c9ad442f",
			"0103070003000000010000000000000000000000000000000000000000000000d86dfdf54260070dbbbaa4ef88413c94",
		},
	}
}

func TestAsMadeElsewhere(t *testing.T) { // 7.1, 7.2: the bytes are those of another program
	whose := map[uint64]int{1: 0, ones: 15, 0: 7}
	for of, want := range elsewhere() {
		s := New(of, whose[of])
		for i, call := range []func() ([]byte, int){
			func() ([]byte, int) { return s.Sample(0, 0, 1500) },
			func() ([]byte, int) { return s.Sample(3, last, last) },
			func() ([]byte, int) { return s.Beat(5) },
			func() ([]byte, int) { return s.Rotate(5) },
			func() ([]byte, int) { return s.Sample(2, 6, 7) },
			func() ([]byte, int) { return s.Beat(last) },
			func() ([]byte, int) { return s.Rotate(last) },
			func() ([]byte, int) { return s.Rotate(0) },
			func() ([]byte, int) { return s.Beat(0) },
		} {
			if e, code := call(); hex.EncodeToString(e) != want[i] || code != api.OK {
				t.Errorf("of the seed %d, call %d is %x, %d", of, i, e, code)
			}
		}
		stands(t, s, 3, 1)
	}
}

func TestSampleAtTheEdges(t *testing.T) { // 7.1: each metric, epoch and value at, within and beyond its edges, all with all
	edges := append(ends(), 0, 1, last/2, last-1, last, last+1, last+2, 2*last)
	for _, metric := range append(ends(), 0, 1, 2, 3, 4, 5, 256, 259, 1<<32+3) {
		for _, epoch := range edges {
			for _, value := range edges {
				s := at(t, 3, 2, 40)
				e, code := s.Sample(int(metric), epoch, value)
				if metric >= 0 && metric <= 3 && epoch >= 0 && epoch <= last && value >= 0 && value <= last {
					seals(t, s, e, code, seed, 2, api.Msg{Kind: api.KSample, Who: 3, Gen: 2, Seq: 41, Epoch: epoch, Metric: int(metric), Value: value})
					continue
				}
				refuses(t, s, e, code, 2, 40)
			}
		}
	}
}

func TestBeatAndRotateAtTheEdges(t *testing.T) { // 7.1, 7.2
	for _, epoch := range append(ends(), 0, 1, last/2, last-1, last, last+1, last+2, 2*last) {
		beat, turn := at(t, 3, 2, 40), at(t, 3, 2, 40)
		e, code := beat.Beat(epoch)
		f, turned := turn.Rotate(epoch)
		if epoch < 0 || epoch > last {
			refuses(t, beat, e, code, 2, 40)
			refuses(t, turn, f, turned, 2, 40)
			continue
		}
		seals(t, beat, e, code, seed, 2, api.Msg{Kind: api.KBeat, Who: 3, Gen: 2, Seq: 41, Epoch: epoch})
		seals(t, turn, f, turned, seed, 2, api.Msg{Kind: api.KRotate, Who: 3, Gen: 3, Seq: 41, Epoch: epoch})
	}
}

func TestEpochsInAnyOrder(t *testing.T) { // 7.1: what goes ahead is not asked, nor whether it was told already
	s := made(t, 1)
	for i, epoch := range []int64{last, 0, 5, 5, 4, last, last, 0} {
		e, code := s.Sample(1, epoch, 9)
		seals(t, s, e, code, seed, 0, api.Msg{Kind: api.KSample, Who: 1, Seq: int64(i + 1), Epoch: epoch, Metric: 1, Value: 9})
	}
}

func TestWhatIsRefusedUsesNothingUp(t *testing.T) { // 7.1, 7.2: nor does it break the run of what follows
	for _, who := range []int{0, 5, 15} {
		s := made(t, who)
		for gen := range 3 {
			for seq := range int64(4) {
				for _, bad := range []func() ([]byte, int){
					func() ([]byte, int) { return s.Sample(-1, 0, 0) },
					func() ([]byte, int) { return s.Sample(4, 0, 0) },
					func() ([]byte, int) { return s.Sample(0, -1, 0) },
					func() ([]byte, int) { return s.Sample(0, last+1, 0) },
					func() ([]byte, int) { return s.Sample(0, 0, -1) },
					func() ([]byte, int) { return s.Sample(0, 0, last+1) },
					func() ([]byte, int) { return s.Beat(-1) },
					func() ([]byte, int) { return s.Beat(last + 1) },
					func() ([]byte, int) { return s.Rotate(-1) },
					func() ([]byte, int) { return s.Rotate(last + 1) },
				} {
					e, code := bad()
					refuses(t, s, e, code, gen, seq)
				}
				e, code := s.Beat(1)
				seals(t, s, e, code, seed, gen, api.Msg{Kind: api.KBeat, Who: who, Gen: gen, Seq: seq + 1, Epoch: 1})
			}
			e, code := s.Rotate(1)
			seals(t, s, e, code, seed, gen, api.Msg{Kind: api.KRotate, Who: who, Gen: gen + 1, Seq: 5, Epoch: 1})
		}
	}
}

func TestToTheLastNumberAndNoFurther(t *testing.T) { // 7.1, 7.2: MaxSeq is used, and then not even a rotation goes
	for kind, call := range calls() {
		for _, gen := range []int{0, 1, 59999} {
			s := at(t, 2, int64(gen), last-1)
			m := api.Msg{Kind: kind, Who: 2, Gen: gen, Seq: last}
			if kind == api.KRotate {
				m.Gen++
			}
			e, code := call(s)
			seals(t, s, e, code, seed, gen, m)
			if kind == api.KRotate {
				continue
			}
			for _, again := range calls() {
				e, code := again(s)
				refuses(t, s, e, code, gen, last)
			}
		}
	}
}

func TestToTheLastGenerationAndNoFurther(t *testing.T) { // 7.2
	s := made(t, 15)
	for gen := range api.MaxGen {
		e, code := s.Rotate(int64(gen))
		if m, _, _, split := wire.Split(e); code != api.OK || split != api.OK || m.Gen != gen+1 || m.Seq != 1 {
			t.Fatalf("Rotate from %d is %+v, %d", gen, m, code)
		}
	}
	stands(t, s, 60000, 0)
	for seq := range int64(3) {
		for _, epoch := range []int64{math.MinInt64, -1, 0, 60000, last, last + 1} {
			e, code := s.Rotate(epoch)
			refuses(t, s, e, code, 60000, seq)
		}
		e, code := s.Sample(1, 2, seq)
		seals(t, s, e, code, seed, 60000, api.Msg{Kind: api.KSample, Who: 15, Gen: 60000, Seq: seq + 1, Epoch: 2, Metric: 1, Value: seq})
	}
}

func TestARotationIsSealedByTheOldKey(t *testing.T) { // 7.2: and what follows by the new one, and by no other's
	for who := range 16 {
		s := made(t, who)
		for gen := range 5 {
			opens(t, s.Rotate, who, gen)
			opens(t, s.Beat, who, gen+1)
		}
	}
}

// opens holds the next envelope against the keys of all that are near: just that of who's generation gen makes its tag.
func opens(t *testing.T, call func(int64) ([]byte, int), who, gen int) {
	t.Helper()
	e, code := call(3)
	_, b, tag, split := wire.Split(e)
	if code != api.OK || split != api.OK {
		t.Fatalf("%x, %d", e, code)
	}
	for other := range 16 {
		for g := range 8 {
			if mac.Same(tag, mac.Tag(mac.Of(seed, other, g), b)) != (other == who && g == gen) {
				t.Errorf("%x of %d's generation %d, by the key of %d's generation %d", e, who, gen, other, g)
			}
		}
	}
}

func TestEachGenerationCountsAnew(t *testing.T) { // 7.3: however far the one ahead had come, if only to 0
	for who := range 16 {
		s := made(t, who)
		for gen, many := range []int64{0, 1, 5, 0, 0, 2, 300, 3, 1} {
			for seq := int64(1); seq <= many; seq++ {
				e, code := s.Sample(0, seq, seq)
				seals(t, s, e, code, seed, gen, api.Msg{Kind: api.KSample, Who: who, Gen: gen, Seq: seq, Epoch: seq, Value: seq})
			}
			e, code := s.Rotate(0)
			seals(t, s, e, code, seed, gen, api.Msg{Kind: api.KRotate, Who: who, Gen: gen + 1, Seq: many + 1})
			stands(t, s, gen+1, 0)
		}
	}
	s := at(t, 0, 6, last-1) // and from the last number of all
	s.Rotate(0)
	goesOn(t, s, 0, 7, 0)
}

func TestNoNumberTwice(t *testing.T) { // 7.3, T3: of no generation, and none left out
	type place struct {
		gen int
		seq int64
	}
	dice := rand.New(rand.NewPCG(7, 3))
	s, seen, most := made(t, 6), map[place]int{}, map[int]int64{}
	for range 5000 {
		gen := s.Gen()
		var e []byte
		switch dice.IntN(10) {
		case 0:
			e, _ = s.Rotate(dice.Int64N(9) - 2)
		case 1, 2, 3:
			e, _ = s.Beat(dice.Int64N(9) - 2)
		default:
			e, _ = s.Sample(dice.IntN(7)-1, dice.Int64N(9)-1, dice.Int64N(9)-1)
		}
		m, _, _, code := wire.Split(e)
		if code != api.OK {
			continue
		}
		seen[place{gen, m.Seq}]++
		most[gen] = max(most[gen], m.Seq)
	}
	whole := int64(0)
	for _, n := range most {
		whole += n
	}
	for p, n := range seen {
		if n != 1 {
			t.Errorf("number %d of generation %d was used %d times", p.seq, p.gen, n)
		}
	}
	if int64(len(seen)) != whole || len(most) < 100 {
		t.Errorf("%d numbers of %d generations were used, up to %d", len(seen), len(most), whole)
	}
}

func TestOfNil(t *testing.T) { // 7.2: with any arguments
	var s *Sealer
	for _, n := range append(ends(), 0, 1, 3, last) {
		for _, metric := range []int{math.MinInt, -1, 0, 3, 4, math.MaxInt} {
			e, code := s.Sample(metric, n, n)
			refuses(t, s, e, code, -1, -1)
		}
		e, code := s.Beat(n)
		refuses(t, s, e, code, -1, -1)
		e, code = s.Rotate(n)
		refuses(t, s, e, code, -1, -1)
	}
}

func TestOfOneThatNewDidNotMake(t *testing.T) { // it is the collector 0 of the seed 0
	var s Sealer
	stands(t, &s, 0, 0)
	e, code := s.Sample(4, 0, 0)
	refuses(t, &s, e, code, 0, 0)
	e, code = s.Sample(1, 2, 3)
	seals(t, &s, e, code, 0, 0, api.Msg{Kind: api.KSample, Seq: 1, Epoch: 2, Metric: 1, Value: 3})
	e, code = s.Rotate(2)
	seals(t, &s, e, code, 0, 0, api.Msg{Kind: api.KRotate, Gen: 1, Seq: 2, Epoch: 2})
	e, code = s.Beat(2)
	seals(t, &s, e, code, 0, 1, api.Msg{Kind: api.KBeat, Gen: 1, Seq: 1, Epoch: 2})
}

func TestOfEachSeed(t *testing.T) { // 7.1
	for _, of := range []uint64{0, 1, 2, 1 << 32, 1<<63 - 1, 1 << 63, ones - 1, ones} {
		for who := range 16 {
			s := New(of, who)
			e, code := s.Sample(who%4, int64(who), 5)
			seals(t, s, e, code, of, 0, api.Msg{Kind: api.KSample, Who: who, Seq: 1, Epoch: int64(who), Metric: who % 4, Value: 5})
		}
	}
}

func TestEachForItself(t *testing.T) { // 7.1, 7.2: what one uses up is none of another's, be it the same collector's
	a, b, c := made(t, 8), made(t, 8), made(t, 9)
	a.Sample(0, 0, 0)
	a.Rotate(0)
	a.Beat(0)
	a.Beat(0)
	stands(t, a, 1, 2)
	stands(t, b, 0, 0)
	stands(t, c, 0, 0)
	goesOn(t, b, 8, 0, 0)
	goesOn(t, a, 8, 1, 2)
	goesOn(t, c, 9, 0, 0)
}

func TestAskingChangesNothing(t *testing.T) { // 7.2
	s := at(t, 8, 3, 12)
	for range 3 {
		stands(t, s, 3, 12)
	}
	goesOn(t, s, 8, 3, 12)
}

func TestAnswersAreTheCallersOwn(t *testing.T) { // 7.1, 7.2
	for _, call := range calls() {
		s, other := made(t, 4), made(t, 4)
		want, _ := call(other)
		e, _ := call(s)
		clear(e[:cap(e)])
		if again, _ := call(made(t, 4)); !bytes.Equal(again, want) {
			t.Errorf("two answers share their bytes")
		}
		want, _ = call(other)
		if next, _ := call(s); !bytes.Equal(next, want) || len(next) != api.Long {
			t.Errorf("the next is %x, not %x", next, want)
		}
	}
}

// tale is a second telling of a Sealer: the messages that it sealed, each with the generation by whose key, from which it is reckoned where it stands.
type tale struct {
	who  int
	sent []api.Msg
	by   []int
}

// place is where it stands: as many generations on as there are rotations, and as many numbers as there are messages behind the last one.
func (a *tale) place() (int, int64) {
	gen, seq := 0, int64(0)
	for _, m := range a.sent {
		seq++
		if m.Kind == api.KRotate {
			gen, seq = gen+1, 0
		}
	}
	return gen, seq
}

// next is the message of the next call, and whether it may be.
func (a *tale) next(kind, metric int, epoch, value int64) (api.Msg, bool) {
	gen, seq := a.place()
	m := api.Msg{Kind: kind, Who: a.who, Gen: gen, Seq: seq + 1, Epoch: epoch, Metric: metric, Value: value}
	if kind == api.KRotate {
		m.Gen++
	}
	may := epoch >= 0 && epoch <= last && metric >= 0 && metric <= 3 && value >= 0 && value <= last
	if may {
		a.sent, a.by = append(a.sent, m), append(a.by, gen)
	}
	return m, may
}

// near is a number at an end of its kind, or near to one of those that are handed in.
func near(dice *rand.Rand, about ...int64) int64 {
	if dice.IntN(20) == 0 {
		l := ends()
		return l[dice.IntN(len(l))]
	}
	return about[dice.IntN(len(about))] + dice.Int64N(7) - 2
}

func TestAsToldASecondTime(t *testing.T) { // 7.1, 7.2, 7.3, T1: whatever is called, in whatever order
	dice := rand.New(rand.NewPCG(7, 7))
	for round := range 80 {
		a := &tale{who: round % 16}
		s := made(t, a.who)
		for range 200 {
			kind, metric, epoch, value := 1+dice.IntN(3), 0, near(dice, 0, 1000, last), int64(0)
			gen, seq := a.place()
			var e []byte
			var code int
			switch kind {
			case api.KSample:
				metric, value = int(near(dice, 1)), near(dice, 0, 1500, last)
				e, code = s.Sample(metric, epoch, value)
			case api.KRotate:
				e, code = s.Rotate(epoch)
			case api.KBeat:
				e, code = s.Beat(epoch)
			}
			m, may := a.next(kind, metric, epoch, value)
			if may {
				seals(t, s, e, code, seed, a.by[len(a.by)-1], m)
			} else {
				refuses(t, s, e, code, gen, seq)
			}
			if gen, seq = a.place(); s.Gen() != gen || s.Seq() != seq {
				t.Fatalf("of %+v: it stands at %d, %d, not at %d, %d", m, s.Gen(), s.Seq(), gen, seq)
			}
		}
	}
}

func TestTheSameEachTime(t *testing.T) { // 7.1: what others do at one time, on Sealers of their own, changes no answer
	var all sync.WaitGroup
	for who := range 16 {
		all.Go(func() {
			s := New(seed, who)
			for gen := range 20 {
				for seq := range int64(10) {
					e, code := s.Sample(2, seq, seq)
					seals(t, s, e, code, seed, gen, api.Msg{Kind: api.KSample, Who: who, Gen: gen, Seq: seq + 1, Epoch: seq, Metric: 2, Value: seq})
				}
				e, code := s.Rotate(1)
				seals(t, s, e, code, seed, gen, api.Msg{Kind: api.KRotate, Who: who, Gen: gen + 1, Seq: 11, Epoch: 1})
			}
		})
	}
	all.Wait()
}
