package mac

import (
	"bytes"
	"math"
	"sync"
	"testing"

	"quorumite/api"
	"quorumite/sip"
)

// paper is the key 00 01 .. 0F.
var paper = api.Key{0x0706050403020100, 0x0f0e0d0c0b0a0908}

const ones = math.MaxUint64

// counting is the bytes 0, 1, 2 .. n - 1.
func counting(n int) []byte {
	b := make([]byte, n)
	for i := range b {
		b[i] = byte(i)
	}
	return b
}

func TestTagAsReckonedElsewhere(t *testing.T) { // 2.1: the tags are those of another program
	rows := []struct {
		k    api.Key
		b    []byte
		want api.Tag
	}{
		{api.Key{}, nil, api.Tag{0x1e924b9d737700d7, 0x4d0617e48cf8737b}},
		{api.Key{}, []byte{}, api.Tag{0x1e924b9d737700d7, 0x4d0617e48cf8737b}},
		{api.Key{}, []byte{0}, api.Tag{0x8b5a0baa49fbc58d, 0x21486ac81ab8e5f0}},
		{api.Key{}, counting(32), api.Tag{0xab631e00063006f5, 0xccef65da0ce18250}},
		{paper, nil, api.Tag{0x726fdb47dd0e0e31, 0x7d14049d617db07d}},
		{paper, []byte{0}, api.Tag{0x74f839c593dc67fd, 0x8e327d42519e9ecf}},
		{paper, counting(32), api.Tag{0x7127512f72f27cce, 0x88453b85718db90d}},
		{api.Key{ones, 0}, nil, api.Tag{0xa4e3fdab06a40925, 0x1e924b9d737700d7}},
		{api.Key{ones, 0}, counting(32), api.Tag{0x3af70fd8e1e162ab, 0xab631e00063006f5}},
	}
	for _, r := range rows {
		if got := Tag(r.k, r.b); got != r.want {
			t.Errorf("Tag of %x under %x is %x", r.b, r.k, got)
		}
	}
}

func TestTagAsTold(t *testing.T) { // 2.1
	for _, k := range []api.Key{{}, {1, 2}, {2, 1}, {5, 5}, {ones, 0}, {0, ones}, {ones, ones}, paper} {
		about := api.Key{k[1], k[0] ^ ones}
		for n := range 70 {
			b := counting(n)
			if want := (api.Tag{sip.Sum(k, b), sip.Sum(about, b)}); Tag(k, b) != want {
				t.Fatalf("Tag of %d bytes under %x", n, k)
			}
		}
	}
}

func TestTagHangsOnAll(t *testing.T) { // 2.1: a bit of the key or of the bytes changes both words
	b := counting(32)
	want := Tag(paper, b)
	for bit := range 256 {
		other := bytes.Clone(b)
		other[bit/8] ^= 1 << (bit % 8)
		if got := Tag(paper, other); got[0] == want[0] || got[1] == want[1] {
			t.Fatalf("bit %d of the bytes", bit)
		}
	}
	for bit := range 128 {
		k := paper
		k[bit/64] ^= 1 << (bit % 64)
		if got := Tag(k, b); got[0] == want[0] || got[1] == want[1] {
			t.Fatalf("bit %d of the key", bit)
		}
	}
}

func TestTagLeavesItsBytes(t *testing.T) { // 2.1
	b := append(counting(20), 77, 78)[:20]
	tag := Tag(paper, b)
	if !bytes.Equal(b[:22], append(counting(20), 77, 78)) {
		t.Error("what was handed in is changed, or what lies behind it")
	}
	clear(b)
	if tag != Tag(paper, counting(20)) {
		t.Error("the tag hangs on what the list became")
	}
}

func TestSame(t *testing.T) { // 2.1
	tags := []api.Tag{{}, {1, 0}, {0, 1}, {1, 1}, {1, 2}, {2, 1}, {ones, ones}, {ones, 0}, {0, ones}, {1 << 63, 0}, {0, 1 << 63}, {1 << 63, 1 << 63}}
	for i, a := range tags {
		for j, b := range tags {
			if Same(a, b) != (i == j) {
				t.Errorf("Same(%x, %x) is %v", a, b, i != j)
			}
		}
	}
}

func TestSameHangsOnEachBit(t *testing.T) { // 2.1
	a := Tag(paper, counting(9))
	for i := range 128 {
		for j := range i + 1 {
			b := a
			b[i/64] ^= 1 << (i % 64)
			b[j/64] ^= 1 << (j % 64)
			if Same(a, b) != (i == j) || Same(b, a) != (i == j) {
				t.Fatalf("bits %d, %d", i, j)
			}
		}
	}
}

func TestBytesAndFrom(t *testing.T) { // 2.1
	rows := []struct {
		t api.Tag
		b []byte
	}{
		{api.Tag{}, make([]byte, 16)},
		{api.Tag{1, 2}, []byte{1, 0, 0, 0, 0, 0, 0, 0, 2, 0, 0, 0, 0, 0, 0, 0}},
		{api.Tag{0x0706050403020100, 0x0f0e0d0c0b0a0908}, counting(16)},
		{api.Tag{1 << 63, 0}, []byte{0, 0, 0, 0, 0, 0, 0, 128, 0, 0, 0, 0, 0, 0, 0, 0}},
		{api.Tag{ones, ones}, bytes.Repeat([]byte{255}, 16)},
	}
	for _, r := range rows {
		if b := Bytes(r.t); !bytes.Equal(b, r.b) {
			t.Errorf("Bytes of %x is %v", r.t, b)
		}
		if tag, code := From(r.b); tag != r.t || code != api.OK {
			t.Errorf("From of %v is %x, %d", r.b, tag, code)
		}
	}
}

func TestFromWrong(t *testing.T) { // 2.1
	for n := range 64 {
		if n == 16 {
			continue
		}
		b := bytes.Repeat([]byte{7}, n)
		if tag, code := From(b); tag != (api.Tag{}) || code != api.ErrBytes {
			t.Errorf("From of %d bytes is %x, %d", n, tag, code)
		}
	}
	if tag, code := From(nil); tag != (api.Tag{}) || code != api.ErrBytes {
		t.Errorf("From of nil is %x, %d", tag, code)
	}
	if _, code := From(make([]byte, 15, 16)); code != api.ErrBytes {
		t.Error("From looks beyond the list's end")
	}
}

func TestBytesAreTheCallersOwn(t *testing.T) { // 2.1
	a := Bytes(api.Tag{1, 2})
	clear(a)
	if !bytes.Equal(Bytes(api.Tag{1, 2}), []byte{1, 0, 0, 0, 0, 0, 0, 0, 2, 0, 0, 0, 0, 0, 0, 0}) {
		t.Error("two answers share their bytes")
	}
	b := counting(16)
	tag, _ := From(b)
	if !bytes.Equal(b, counting(16)) {
		t.Error("what was handed in is changed")
	}
	clear(b)
	if !bytes.Equal(Bytes(tag), counting(16)) {
		t.Error("the tag hangs on what the list became")
	}
}

func TestDeriveAsReckonedElsewhere(t *testing.T) { // 2.2: the keys are those of another program
	rows := []struct {
		k     api.Key
		label string
		n     uint64
		want  api.Key
	}{
		{api.Key{}, "", 0, api.Key{0xb20dbe42df95b57e, 0x574a19e7d6f1f71e}},
		{paper, "who", 3, api.Key{0x4908a3c60e86abcb, 0x7b42082b5d3336dd}},
		{paper, "who", 4, api.Key{0x360fc6cdc5b09613, 0x1072a8186cf1947b}},
		{paper, "gen", 3, api.Key{0x1fe9676a88121cf8, 0x25cfa7f4c51f7fe7}},
		{api.Key{1, 2}, "root", 0, api.Key{0x3a2b6f886d499650, 0x46c7e9d012517793}},
		{paper, "\xff\x00label", ones, api.Key{0x95d5a440832f1558, 0xebf494e60e838e58}},
	}
	for _, r := range rows {
		if got := Derive(r.k, r.label, r.n); got != r.want {
			t.Errorf("Derive(%x, %q, %d) is %x", r.k, r.label, r.n, got)
		}
	}
}

func TestDeriveAsTold(t *testing.T) { // 2.2
	for _, label := range []string{"", "a", "who", "seventh", "eight by", "\x01", "\x02\x00", "\xc3\xa4\xff", string(counting(300))} {
		for _, n := range []uint64{0, 1, 255, 256, 1 << 63, ones} {
			var want api.Key
			for i := range want {
				b := append([]byte(label), byte(i+1))
				want[i] = sip.Sum(paper, append(b, sip.Put(n)...))
			}
			if got := Derive(paper, label, n); got != want {
				t.Errorf("Derive of %q, %d is %x, not %x", label, n, got, want)
			}
		}
	}
}

func TestDeriveHasTwoWords(t *testing.T) { // 2.2
	for n := range uint64(100) {
		if d := Derive(paper, "who", n); d[0] == d[1] {
			t.Fatalf("both words of %d are one", n)
		}
	}
}

func TestRoot(t *testing.T) { // 2.2: the last seed's second word wraps round
	rows := []struct {
		seed uint64
		want api.Key
	}{
		{0, api.Key{0x41a0dc7af7b4177e, 0x89059c64270517d0}},
		{1, api.Key{0x3a2b6f886d499650, 0x46c7e9d012517793}},
		{2, api.Key{0x621b5cca9cce5eec, 0x0c4218b40aa8e662}},
		{ones - 1, api.Key{0xc447dceebb7808c0, 0x3aa06a124b8dcd15}},
		{ones, api.Key{0x99c542c10a2d76f7, 0xf7a71f94be4c302a}},
	}
	for _, r := range rows {
		if got := Root(r.seed); got != r.want {
			t.Errorf("Root(%d) is %x", r.seed, got)
		}
		if got := Root(r.seed); got != Derive(api.Key{r.seed, r.seed + 1}, "root", 0) {
			t.Errorf("Root(%d) is not the one that is derived", r.seed)
		}
	}
}

func TestOf(t *testing.T) { // 2.2: numbers below 0, too, as 64 bits without a sign
	rows := []struct {
		seed     uint64
		who, gen int
		want     api.Key
	}{
		{0, 0, 0, api.Key{0x77bc01073c69f4c5, 0xf74adb5003a51531}},
		{1, 0, 0, api.Key{0x0fc3a74f4a689a99, 0x6f9ff2ea8dc5a9fb}},
		{1, 0, 1, api.Key{0x892c434126104ca7, 0xa6d70eaf03be2375}},
		{1, 1, 0, api.Key{0x65102b9195821df9, 0xbd490f3a0030076c}},
		{1, 15, api.MaxGen, api.Key{0x599096b7eb4fb86e, 0x0880ee2aa83aac48}},
		{ones, 3, 7, api.Key{0xedabfb85c78aa00f, 0x935bcb40b69a141e}},
		{1, -1, 0, api.Key{0xd87a1ad08b774d4b, 0xb4354ea6b973e6d6}},
		{1, 0, -1, api.Key{0xce8392231514ce79, 0x895a675a1b36506b}},
		{1, math.MinInt64, math.MaxInt64, api.Key{0x11b3b0e2b0ef6bd0, 0x059d9b23a4c5792e}},
	}
	for _, r := range rows {
		if got := Of(r.seed, r.who, r.gen); got != r.want {
			t.Errorf("Of(%d, %d, %d) is %x", r.seed, r.who, r.gen, got)
		}
	}
}

func TestEachHasAKeyOfItsOwn(t *testing.T) { // 2.3
	type owner struct {
		seed     uint64
		who, gen int
	}
	seen := map[api.Key]owner{}
	keep := func(k api.Key, o owner) {
		if other, ok := seen[k]; ok {
			t.Fatalf("%v and %v have one key", other, o)
		}
		seen[k] = o
	}
	for seed := range uint64(3) {
		keep(Root(seed), owner{seed, -1, -1})
		for who := range api.MaxCollectors {
			for gen := range 40 {
				keep(Of(seed, who, gen), owner{seed, who, gen})
			}
		}
	}
}

func TestTheSameEachTime(t *testing.T) { // 2.2, T1: what was asked ahead, or at one time, changes no answer
	want := Of(1, 15, api.MaxGen)
	for range 1000 {
		Derive(paper, "who", 1)
	}
	keys := make([]api.Key, 32)
	var all sync.WaitGroup
	for i := range keys {
		all.Go(func() { keys[i] = Of(1, 15, api.MaxGen) })
	}
	all.Wait()
	for i, k := range keys {
		if k != want {
			t.Fatalf("the key told at %d is %x", i, k)
		}
	}
}
