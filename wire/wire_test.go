package wire

import (
	"bytes"
	"encoding/hex"
	"math"
	"slices"
	"sync"
	"testing"

	"quorumite/api"
	"quorumite/mac"
	"quorumite/sip"
)

// paper is the key 00 01 .. 0F.
var paper = api.Key{0x0706050403020100, 0x0f0e0d0c0b0a0908}

const ones = math.MaxUint64

// sample is a message of which no part is 0, and no two bytes that hold one number are the same.
func sample() api.Msg {
	return api.Msg{Kind: api.KSample, Who: 3, Metric: 2, Gen: 60000, Seq: 0x0102030405, Epoch: 0x0a0b0c0d0e, Value: 0x1112131415}
}

// bytesOf is a text of hexadecimal digits as bytes.
func bytesOf(t *testing.T, text string) []byte {
	t.Helper()
	b, err := hex.DecodeString(text)
	if err != nil {
		t.Fatal(err)
	}
	return b
}

// envelopes are messages and what another program made of them.
func envelopes() []struct {
	k    api.Key
	m    api.Msg
	want string
} {
	return []struct {
		k    api.Key
		m    api.Msg
		want string
	}{
		{api.Key{}, api.Msg{Kind: api.KSample, Seq: 1},
			"01010000000000000100000000000000000000000000000000000000000000003b24bb6745e47d5d6775d93bf1a19435"},
		{paper, sample(),
			"0101030260ea000005040302010000000e0d0c0b0a0000001514131211000000449d820c60fd5d7b320a4eb4547eda14"},
		{mac.Of(1, 0, 0), api.Msg{Kind: api.KSample, Seq: 1, Value: 1500},
			"010100000000000001000000000000000000000000000000dc0500000000000002f767ccc8e5ea15392d81d2e1f01729"},
		{mac.Of(1, 15, 60000), api.Msg{Kind: api.KSample, Who: 15, Metric: 3, Gen: 60000, Seq: 1 << 40, Epoch: 1 << 40, Value: 1 << 40},
			"01010f0360ea0000000000000001000000000000000100000000000000010000ea9390fc1d104ed486033eac0dd08bb0"},
		{mac.Of(1, 2, 0), api.Msg{Kind: api.KRotate, Who: 2, Gen: 1, Seq: 9, Epoch: 5},
			"01020200010000000900000000000000050000000000000000000000000000002acce05c2c48c0f3c039354a9955c22f"},
		{api.Key{ones, ones}, api.Msg{Kind: api.KBeat, Who: 7, Gen: 258, Seq: 4, Epoch: 1 << 40},
			"010307000201000004000000000000000000000000010000000000000000000003167604845cbb7fa1011f4ae8a51a71"},
		{api.Key{ones, 0}, api.Msg{Kind: api.KBeat, Seq: 1},
			"0103000000000000010000000000000000000000000000000000000000000000195c1f27ff2037b4f6abb600acad09c3"},
	}
}

// asks holds May, Put and Seal against whether m may be, and, if it may, Get and Split against what they make.
func asks(t *testing.T, m api.Msg, may bool) {
	t.Helper()
	if May(m) != may {
		t.Errorf("May of %+v is %v", m, !may)
	}
	b, code := Put(m)
	e, sealed := Seal(paper, m)
	if !may {
		if b != nil || code != api.ErrArg {
			t.Errorf("Put of %+v is %x, %d", m, b, code)
		}
		if e != nil || sealed != api.ErrArg {
			t.Errorf("Seal of %+v is %x, %d", m, e, sealed)
		}
		return
	}
	if !bytes.Equal(b, told(m)) || code != api.OK {
		t.Errorf("Put of %+v is %x, %d", m, b, code)
	}
	if got, code := Get(b); got != m || code != api.OK {
		t.Errorf("Get of %x is %+v, %d", b, got, code)
	}
	tag := mac.Tag(paper, b)
	if !bytes.Equal(e, slices.Concat(b, mac.Bytes(tag))) || sealed != api.OK {
		t.Errorf("Seal of %+v is %x, %d", m, e, sealed)
	}
	got, part, found, code := Split(e)
	if got != m || !bytes.Equal(part, b) || found != tag || code != api.OK {
		t.Errorf("Split of %x is %+v, %x, %x, %d", e, got, part, found, code)
	}
}

// told is m in bytes as the chapter tells them, whether it may be or not.
func told(m api.Msg) []byte {
	b := []byte{1, byte(m.Kind), byte(m.Who), byte(m.Metric), byte(m.Gen), byte(m.Gen >> 8), byte(m.Gen >> 16), byte(m.Gen >> 24)}
	for _, n := range []int64{m.Seq, m.Epoch, m.Value} {
		for i := range 8 {
			b = append(b, byte(n>>(8*i)))
		}
	}
	return b
}

// ends are numbers at the ends of their kind, and where a smaller kind would wrap round to what may be.
func ends() []int64 {
	return []int64{math.MinInt64, math.MinInt64 + 1, -1 << 40, -1 << 32, -256, -2, -1, 1<<32 + 1, 1 << 48, 1<<62 + 1, math.MaxInt64 - 1, math.MaxInt64}
}

func TestAsMadeElsewhere(t *testing.T) { // 4.1, 4.2: the bytes are those of another program
	for _, r := range envelopes() {
		want := bytesOf(t, r.want)
		if b, code := Put(r.m); !bytes.Equal(b, want[:32]) || code != api.OK {
			t.Errorf("Put of %+v is %x, %d", r.m, b, code)
		}
		if m, code := Get(want[:32]); m != r.m || code != api.OK {
			t.Errorf("Get of %x is %+v, %d", want[:32], m, code)
		}
		if e, code := Seal(r.k, r.m); !bytes.Equal(e, want) || code != api.OK {
			t.Errorf("Seal of %+v is %x, %d", r.m, e, code)
		}
		m, b, tag, code := Split(want)
		if m != r.m || !bytes.Equal(b, want[:32]) || tag != mac.Tag(r.k, want[:32]) || code != api.OK {
			t.Errorf("Split of %x is %+v, %x, %x, %d", want, m, b, tag, code)
		}
	}
}

func TestMayAtTheEdges(t *testing.T) { // 4.1
	asks(t, sample(), true)
	asks(t, api.Msg{}, false)
	for _, r := range []struct {
		name      string
		put       func(m *api.Msg, n int64)
		low, high int64
	}{
		{"who", func(m *api.Msg, n int64) { m.Who = int(n) }, 0, 15},
		{"gen", func(m *api.Msg, n int64) { m.Gen = int(n) }, 0, 60000},
		{"seq", func(m *api.Msg, n int64) { m.Seq = n }, 1, 1 << 40},
		{"epoch", func(m *api.Msg, n int64) { m.Epoch = n }, 0, 1 << 40},
		{"metric", func(m *api.Msg, n int64) { m.Metric = int(n) }, 0, 3},
		{"value", func(m *api.Msg, n int64) { m.Value = n }, 0, 1 << 40},
	} {
		t.Run(r.name, func(t *testing.T) {
			for _, n := range append(ends(), r.low-1, r.low, r.low+1, (r.low+r.high)/2, r.high-1, r.high, r.high+1, r.high+2, r.high+256, 2*r.high+2) {
				m := sample()
				r.put(&m, n)
				asks(t, m, r.low <= n && n <= r.high)
			}
		})
	}
}

func TestMayOfKinds(t *testing.T) { // 4.1
	for kind := -300; kind <= 300; kind++ {
		asks(t, api.Msg{Kind: kind, Seq: 1}, kind >= 1 && kind <= 3)
	}
	for _, n := range ends() {
		asks(t, api.Msg{Kind: int(n), Seq: 1}, false)
	}
	for kind := 1; kind <= 3; kind++ {
		for who := range 16 {
			asks(t, api.Msg{Kind: kind, Who: who, Gen: who * 4000, Seq: 1 << (2 * who), Epoch: 3 << (2 * who)}, true)
		}
	}
}

func TestOnlyASampleMeasures(t *testing.T) { // 4.1
	numbers := append(ends(), 0, 1, 2, 3, 4, 5, 100, 256, 1<<32, 1<<40, 1<<40+1)
	for kind := 1; kind <= 3; kind++ {
		for _, metric := range numbers {
			for _, value := range numbers {
				may := metric == 0 && value == 0
				if kind == api.KSample {
					may = metric >= 0 && metric <= 3 && value >= 0 && value <= 1<<40
				}
				asks(t, api.Msg{Kind: kind, Who: 1, Gen: 2, Seq: 3, Epoch: 4, Metric: int(metric), Value: value}, may)
			}
		}
	}
}

func TestOfEachMetric(t *testing.T) { // 4.1
	for metric := range 4 {
		for who := range 16 {
			asks(t, api.Msg{Kind: api.KSample, Who: who, Gen: 1 << who, Seq: 1 << 40 >> who, Epoch: int64(metric), Metric: metric, Value: 1 << (10 * metric)}, true)
		}
	}
}

func TestOneWrongPartIsEnough(t *testing.T) { // 4.1: whatever the others are
	for _, m := range []api.Msg{
		{Kind: 0, Seq: 1},
		{Kind: 4, Seq: 1},
		{Kind: 1, Seq: 0},
		{Kind: 2, Seq: 0},
		{Kind: 3, Seq: 0},
		{Kind: 3, Seq: 1, Who: 16},
		{Kind: 2, Seq: 1, Who: -1},
		{Kind: 2, Seq: 1, Gen: 60001},
		{Kind: 3, Seq: 1, Gen: -1},
		{Kind: 2, Seq: 1, Epoch: -1},
		{Kind: 3, Seq: 1, Epoch: 1<<40 + 1},
		{Kind: 2, Seq: 1, Value: 1},
		{Kind: 3, Seq: 1, Metric: 1},
		{Kind: -1, Who: -1, Gen: -1, Seq: -1, Epoch: -1, Value: -1, Metric: -1},
	} {
		asks(t, m, false)
	}
}

func TestGetOfMessagesThatMayNotBe(t *testing.T) { // 4.1, 4.2: what Put makes of none
	for _, b := range [][]byte{
		told(api.Msg{}),
		make([]byte, 32),
		bytes.Repeat([]byte{1}, 32),
		bytes.Repeat([]byte{255}, 32),
		told(api.Msg{Kind: 0, Seq: 1}),
		told(api.Msg{Kind: 4, Seq: 1}),
		told(api.Msg{Kind: 1, Who: 16, Seq: 1}),
		told(api.Msg{Kind: 1, Who: 255, Seq: 1}),
		told(api.Msg{Kind: 1, Gen: 60001, Seq: 1}),
		told(api.Msg{Kind: 1, Gen: 1 << 31, Seq: 1}),
		told(api.Msg{Kind: 1, Gen: 1<<32 - 1, Seq: 1}),
		told(api.Msg{Kind: 1, Seq: 0}),
		told(api.Msg{Kind: 1, Seq: 1<<40 + 1}),
		told(api.Msg{Kind: 1, Seq: -1}),
		told(api.Msg{Kind: 1, Seq: math.MinInt64 + 1}),
		told(api.Msg{Kind: 1, Seq: 1, Epoch: 1<<40 + 1}),
		told(api.Msg{Kind: 1, Seq: 1, Epoch: -1}),
		told(api.Msg{Kind: 1, Seq: 1, Epoch: math.MinInt64}),
		told(api.Msg{Kind: 1, Seq: 1, Value: 1<<40 + 1}),
		told(api.Msg{Kind: 1, Seq: 1, Value: -1}),
		told(api.Msg{Kind: 1, Seq: 1, Value: math.MinInt64}),
		told(api.Msg{Kind: 1, Seq: 1, Metric: 4}),
		told(api.Msg{Kind: 1, Seq: 1, Metric: 255}),
		told(api.Msg{Kind: 2, Seq: 1, Metric: 1}),
		told(api.Msg{Kind: 2, Seq: 1, Value: 1}),
		told(api.Msg{Kind: 3, Seq: 1, Metric: 3}),
		told(api.Msg{Kind: 3, Seq: 1, Value: 1 << 40}),
	} {
		nothing(t, b)
	}
}

// nothing holds Get and Split of 32 bytes in which no message is against ErrBytes and nothing.
func nothing(t *testing.T, b []byte) {
	t.Helper()
	if m, code := Get(b); m != (api.Msg{}) || code != api.ErrBytes {
		t.Errorf("Get of %x is %+v, %d", b, m, code)
	}
	e := slices.Concat(b, mac.Bytes(mac.Tag(paper, b)))
	m, part, tag, code := Split(e)
	if m != (api.Msg{}) || part != nil || tag != (api.Tag{}) || code != api.ErrBytes {
		t.Errorf("Split of %x is %+v, %x, %x, %d", e, m, part, tag, code)
	}
}

func TestOtherVersions(t *testing.T) { // 4.1
	for _, r := range envelopes() {
		b, _ := Put(r.m)
		for version := range 256 {
			b[0] = byte(version)
			if version != 1 {
				nothing(t, b)
			} else if m, code := Get(b); m != r.m || code != api.OK {
				t.Errorf("Get of %x is %+v, %d", b, m, code)
			}
		}
	}
}

func TestOtherLengths(t *testing.T) { // 4.1, 4.2: no byte more, no byte less
	whole, _ := Seal(paper, sample())
	long := slices.Concat(whole, whole, whole)
	for n := range len(long) + 1 {
		if n != 32 {
			if m, code := Get(long[:n]); m != (api.Msg{}) || code != api.ErrBytes {
				t.Errorf("Get of %d bytes is %+v, %d", n, m, code)
			}
		}
		if n != 48 {
			m, b, tag, code := Split(long[:n])
			if m != (api.Msg{}) || b != nil || tag != (api.Tag{}) || code != api.ErrBytes {
				t.Errorf("Split of %d bytes is %+v, %x, %x, %d", n, m, b, tag, code)
			}
		}
	}
	if m, code := Get(nil); m != (api.Msg{}) || code != api.ErrBytes {
		t.Errorf("Get of nil is %+v, %d", m, code)
	}
	if m, b, tag, code := Split(nil); m != (api.Msg{}) || b != nil || tag != (api.Tag{}) || code != api.ErrBytes {
		t.Errorf("Split of nil is %+v, %x, %x, %d", m, b, tag, code)
	}
}

func TestSplitDoesNotJudgeTheTag(t *testing.T) { // 4.2
	b := told(sample())
	for _, want := range []api.Tag{{}, {1, 2}, {ones, 0}, {0, ones}, {1 << 63, 1}, {0x0706050403020100, 0x0f0e0d0c0b0a0908}} {
		m, part, tag, code := Split(slices.Concat(b, mac.Bytes(want)))
		if m != sample() || !bytes.Equal(part, b) || tag != want || code != api.OK {
			t.Errorf("Split with the tag %x is %+v, %x, %x, %d", want, m, part, tag, code)
		}
	}
}

func TestSealHangsOnTheKey(t *testing.T) { // 4.2
	want, _ := Seal(paper, sample())
	for bit := range 128 {
		k := paper
		k[bit/64] ^= 1 << (bit % 64)
		e, code := Seal(k, sample())
		if code != api.OK || !bytes.Equal(e[:32], want[:32]) || bytes.Equal(e[32:], want[32:]) {
			t.Errorf("bit %d of the key: %x, %d", bit, e, code)
		}
	}
}

func TestOneFormOfEach(t *testing.T) { // 4.3: any other byte at any place is another message, or none
	for _, r := range envelopes() {
		b, _ := Put(r.m)
		for at := range b {
			for x := range 256 {
				other := bytes.Clone(b)
				other[at] = byte(x)
				holds(t, r.m, b, other)
			}
		}
	}
}

func TestTwoOtherBits(t *testing.T) { // 4.3
	b, _ := Put(sample())
	for i := range 256 {
		for j := range i {
			other := bytes.Clone(b)
			other[i/8] ^= 1 << (i % 8)
			other[j/8] ^= 1 << (j % 8)
			holds(t, sample(), b, other)
		}
	}
}

// holds holds what is got from other bytes than those of m against 4.3: another message, of which Put makes just these, or none.
func holds(t *testing.T, m api.Msg, b, other []byte) {
	t.Helper()
	got, code := Get(other)
	if code != api.OK {
		if got != (api.Msg{}) || code != api.ErrBytes || bytes.Equal(b, other) {
			t.Errorf("Get of %x is %+v, %d", other, got, code)
		}
		return
	}
	if again, code := Put(got); !bytes.Equal(again, other) || code != api.OK {
		t.Errorf("%x and %x are both %+v (%d)", other, again, got, code)
	}
	if (got == m) != bytes.Equal(b, other) {
		t.Errorf("%x and %x are both %+v", b, other, m)
	}
}

func TestBytesOfAnyKind(t *testing.T) { // 4.3: bytes that are spread without a rule, near to a message's
	for i := range uint64(20000) {
		var b []byte
		for at := range uint64(4) {
			b = append(b, sip.Put(sip.Sum(api.Key{i, at}, nil))...)
		}
		if i%2 == 0 { // few of these would be a message, if they were left as they are
			b[0], b[1], b[2], b[3] = 1, b[1]%4, b[2]%17, b[3]%5
			b[6], b[7] = 0, 0
			for at := 8; at < 32; at += 8 {
				b[at+5], b[at+6], b[at+7] = b[at+5]%2, 0, 0
			}
		}
		m, code := Get(b)
		if may := May(m) && bytes.Equal(told(m), b); may != (code == api.OK) || !may && (m != (api.Msg{}) || code != api.ErrBytes) {
			t.Fatalf("Get of %x is %+v, %d", b, m, code)
		}
		e := slices.Concat(b, b[:16])
		split, part, tag, same := Split(e)
		if split != m || same != code {
			t.Fatalf("Split of %x is %+v, %d", e, split, same)
		}
		if want, _ := mac.From(b[:16]); code == api.OK && (!bytes.Equal(part, b) || tag != want) {
			t.Fatalf("Split of %x is %x, %x", e, part, tag)
		}
	}
}

func TestEachMessageItsOwnBytes(t *testing.T) { // 4.3
	seen := map[[32]byte]api.Msg{}
	for kind := 1; kind <= 3; kind++ {
		for who := range 16 {
			for n := range int64(256) {
				m := api.Msg{Kind: kind, Who: who, Gen: int(n&3) * 20000, Seq: 1 + (n>>2&3)<<38, Epoch: (n >> 4 & 3) << 38}
				if kind == api.KSample {
					m.Metric, m.Value = int(n>>6), (n>>6)<<38
				} else if n >= 64 {
					break
				}
				b, code := Put(m)
				if code != api.OK || len(b) != 32 {
					t.Fatalf("Put of %+v is %x, %d", m, b, code)
				}
				if other, ok := seen[[32]byte(b)]; ok {
					t.Fatalf("%+v and %+v are both %x", other, m, b)
				}
				seen[[32]byte(b)] = m
			}
		}
	}
}

func TestWhatIsHandedInIsLeft(t *testing.T) { // 4.2
	e, _ := Seal(paper, sample())
	whole := slices.Concat(e, []byte{77, 78})
	in := bytes.Clone(whole)
	Get(in[:32])
	Split(in[:48])
	if !bytes.Equal(in, whole) {
		t.Error("what was handed in is changed, or what lies behind it")
	}
}

func TestAnswersAreTheCallersOwn(t *testing.T) { // 4.1, 4.2
	first, _ := Put(sample())
	clear(first[:cap(first)])
	e, _ := Seal(paper, sample())
	want := bytes.Clone(e)
	clear(e[:cap(e)])
	if b, _ := Put(sample()); !bytes.Equal(b, told(sample())) {
		t.Error("two of Put's answers share their bytes")
	}
	if e, _ := Seal(paper, sample()); !bytes.Equal(e, want) {
		t.Error("two of Seal's answers share their bytes")
	}
	in := bytes.Clone(want)
	_, one, tag, _ := Split(in)
	_, two, _, _ := Split(in)
	clear(in)
	if !bytes.Equal(one, want[:32]) || !bytes.Equal(mac.Bytes(tag), want[32:]) {
		t.Error("what Split answered hangs on what the list became")
	}
	in = bytes.Clone(want)
	_, one, _, _ = Split(in)
	clear(one[:cap(one)])
	if !bytes.Equal(in, want) {
		t.Error("what Split answered shares its bytes with what was handed in")
	}
	if !bytes.Equal(two, want[:32]) {
		t.Error("two of Split's answers share their bytes")
	}
}

func TestTheSameEachTime(t *testing.T) { // T1: what was asked ahead, or at one time, changes no answer
	want := envelopes()
	var all sync.WaitGroup
	for range 16 {
		all.Go(func() {
			for _, r := range want {
				e, _ := Seal(r.k, r.m)
				if m, _, _, code := Split(e); m != r.m || code != api.OK || hex.EncodeToString(e) != r.want {
					t.Errorf("%+v is sealed as %x and split as %+v, %d", r.m, e, m, code)
				}
			}
		})
	}
	all.Wait()
}
