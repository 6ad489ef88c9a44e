package sip

import (
	"bytes"
	"sync"
	"testing"

	"quorumite/api"
)

// paper is the key 00 01 .. 0F, under which the hash's published examples stand.
var paper = api.Key{0x0706050403020100, 0x0f0e0d0c0b0a0908}

// published are the sums under that key of nothing, of 00, of 00 01, and so on.
var published = []uint64{
	0x726fdb47dd0e0e31, 0x74f839c593dc67fd, 0x0d6c8009d9a94f5a, 0x85676696d7fb7e2d,
	0xcf2794e0277187b7, 0x18765564cd99a68d, 0xcbc9466e58fee3ce, 0xab0200f58b01d137,
	0x93f5f5799a932462, 0x9e0082df0ba9e4b0, 0x7a5dbbc594ddb9f3, 0xf4b32f46226bada7,
	0x751e8fbc860ee5fb, 0x14ea5627c0843d90, 0xf723ca908e7af2ee, 0xa129ca6149be45e5,
}

// counting is n bytes that no shift of a number's place leaves as they were.
func counting(n int) []byte {
	b := make([]byte, n)
	for i := range b {
		b[i] = byte(i*7 + i/8 + 3)
	}
	return b
}

// padded is what the chapter says of the end: noughts up to a seventh byte, then the length.
func padded(b []byte) []byte {
	p := append([]byte{}, b...)
	for len(p)%8 != 7 {
		p = append(p, 0)
	}
	return append(p, byte(len(b)))
}

// told is the sum as the chapter tells it, of all bytes at once.
func told(k api.Key, b []byte) uint64 {
	v0, v1 := k[0]^0x736f6d6570736575, k[1]^0x646f72616e646f6d
	v2, v3 := k[0]^0x6c7967656e657261, k[1]^0x7465646279746573
	for p := padded(b); len(p) > 0; p = p[8:] {
		m := uint64(0)
		for i := 7; i >= 0; i-- {
			m = m<<8 | uint64(p[i])
		}
		v3 ^= m
		v0, v1, v2, v3 = Round(v0, v1, v2, v3)
		v0, v1, v2, v3 = Round(v0, v1, v2, v3)
		v0 ^= m
	}
	v2 ^= 255
	for range 4 {
		v0, v1, v2, v3 = Round(v0, v1, v2, v3)
	}
	return v0 ^ v1 ^ v2 ^ v3
}

func TestPutGet(t *testing.T) { // 1.1
	rows := []struct {
		n uint64
		b []byte
	}{
		{0, []byte{0, 0, 0, 0, 0, 0, 0, 0}},
		{1, []byte{1, 0, 0, 0, 0, 0, 0, 0}},
		{256, []byte{0, 1, 0, 0, 0, 0, 0, 0}},
		{0x0807060504030201, []byte{1, 2, 3, 4, 5, 6, 7, 8}},
		{1 << 63, []byte{0, 0, 0, 0, 0, 0, 0, 128}},
		{1<<64 - 1, []byte{255, 255, 255, 255, 255, 255, 255, 255}},
	}
	for _, r := range rows {
		if b := Put(r.n); !bytes.Equal(b, r.b) {
			t.Errorf("Put(%x) is %v", r.n, b)
		}
		for _, ahead := range []int{0, 1, 8, 13} {
			b := append(append(bytes.Repeat([]byte{9}, ahead), r.b...), 9, 9)
			if n, code := Get(b, ahead); n != r.n || code != api.OK {
				t.Errorf("Get of %x behind %d bytes is %x, %d", r.n, ahead, n, code)
			}
		}
	}
}

func TestPutIsTheCallersOwn(t *testing.T) { // 1.1
	a := Put(5)
	a[0] = 9
	if b := Put(5); b[0] != 5 {
		t.Error("two answers share their bytes")
	}
}

func TestGetWrong(t *testing.T) { // 1.1
	const low, high = -1 << 63, 1<<63 - 1
	rows := []struct{ size, at int }{
		{0, 0}, {7, 0}, {8, 1}, {8, -1}, {9, 2}, {16, 9}, {16, 16}, {16, 17}, {16, -8}, {16, high}, {16, high - 7}, {16, low}, {0, low}, {0, -8},
	}
	for _, r := range rows {
		if n, code := Get(bytes.Repeat([]byte{1}, r.size), r.at); n != 0 || code != api.ErrBytes {
			t.Errorf("Get of %d bytes at %d is %x, %d", r.size, r.at, n, code)
		}
	}
	if n, code := Get(nil, 0); n != 0 || code != api.ErrBytes {
		t.Errorf("Get of nil is %x, %d", n, code)
	}
	if _, code := Get(make([]byte, 16, 32), 9); code != api.ErrBytes {
		t.Error("Get looks beyond the list's end")
	}
}

func TestRound(t *testing.T) { // 1.1
	rows := [][2][4]uint64{
		{{}, {}},
		{{1, 0, 0, 0}, {1 << 32, 1<<17 ^ 1, 1 << 32, 1 << 32}},
		{{0, 0, 1, 0}, {1, 1, 1 << 32, 1<<21 ^ 1}},
	}
	for _, r := range rows {
		a, b, c, d := Round(r[0][0], r[0][1], r[0][2], r[0][3])
		if got := [4]uint64{a, b, c, d}; got != r[1] {
			t.Errorf("Round(%x) is %x", r[0], got)
		}
	}
}

func TestRoundAsPublished(t *testing.T) { // 1.1
	// the words of the hash's published example behind its first number: two rounds
	a, b, c, d := Round(0x7469686173716475, 0x6b617f6d656e6665, 0x6b7f62616d677361, 0x7c6d6c6a717c6d7b)
	a, b, c, d = Round(a, b, c, d)
	want := [4]uint64{0x4d07749cdd0858e0, 0x0d52f6f62a4f59a4, 0x634cb3577b01fd3d, 0xa5224d6f55c7d9c8}
	if got := [4]uint64{a, b, c, d}; got != want {
		t.Errorf("two rounds are %x", got)
	}
}

func TestSumAsPublished(t *testing.T) { // 1.2
	var b []byte
	for n, want := range published {
		if got := Sum(paper, b); got != want {
			t.Errorf("Sum of %d bytes is %x, not %x", n, got, want)
		}
		b = append(b, byte(n))
	}
}

func TestSumAsTold(t *testing.T) { // 1.2
	keys := []api.Key{{}, {1, 2}, {2, 1}, {1<<64 - 1, 0}, {0, 1<<64 - 1}, paper}
	for _, k := range keys {
		// beyond 512: the length stands modulo 256
		for n := range 600 {
			if b := counting(n); Sum(k, b) != told(k, b) {
				t.Fatalf("Sum of %d bytes under %x", n, k)
			}
		}
	}
}

func TestSumTellsLengthsApart(t *testing.T) { // 1.2
	seen := map[uint64]int{}
	for n := range 300 {
		sum := Sum(paper, make([]byte, n))
		if m, ok := seen[sum]; ok {
			t.Fatalf("%d and %d noughts have one sum", m, n)
		}
		seen[sum] = n
	}
	if Sum(paper, nil) != Sum(paper, []byte{}) {
		t.Error("nil and the empty list differ")
	}
}

func TestSumLeavesItsBytes(t *testing.T) { // 1.2
	b := counting(29)
	Sum(paper, b)
	New(paper).Write(b)
	if !bytes.Equal(b, counting(29)) {
		t.Error("what was handed in is changed")
	}
}

func TestHashInPieces(t *testing.T) { // 1.3
	b := counting(601)
	for _, step := range []int{1, 2, 3, 5, 7, 8, 9, 15, 16, 17, 100, 255, 256, 257, 601} {
		h := New(paper)
		for at := 0; at < len(b); at += step {
			if want := told(paper, b[:at]); h.Sum() != want || h.Sum() != want {
				t.Fatalf("by %d: the sum of %d bytes", step, at)
			}
			piece := b[at:min(at+step, len(b))]
			if n := h.Write(piece); n != len(piece) {
				t.Fatalf("by %d: Write tells %d", step, n)
			}
			if h.Write(nil) != 0 || h.Write([]byte{}) != 0 {
				t.Fatalf("by %d: Write of nothing tells more than 0", step)
			}
		}
		if h.Sum() != told(paper, b) {
			t.Fatalf("by %d: the sum of all", step)
		}
	}
}

func TestHashKeepsNoneOfItsBytes(t *testing.T) { // 1.3
	h, b := New(paper), counting(13)
	h.Write(b)
	clear(b)
	if h.Sum() != told(paper, counting(13)) {
		t.Error("the sum hangs on what the list became")
	}
}

func TestHashesAreApart(t *testing.T) { // 1.3
	a, b := New(paper), New(paper)
	other := New(api.Key{3, 4})
	a.Write(counting(20))
	other.Write(counting(5))
	if b.Sum() != told(paper, nil) || a.Sum() != told(paper, counting(20)) || other.Sum() != told(api.Key{3, 4}, counting(5)) {
		t.Error("what one was given, another one counts")
	}
}

func TestHashOfNil(t *testing.T) { // 1.3
	var none *Hash
	if none.Write(counting(9)) != 0 || none.Write(nil) != 0 || none.Sum() != 0 {
		t.Error("nil answers other than 0")
	}
}

func TestHashThatNewDidNotMake(t *testing.T) { // 1.3: the words are made once, whoever is first
	var asked, written Hash
	if asked.Sum() != told(api.Key{}, nil) {
		t.Error("its sum of nothing")
	}
	for _, h := range []*Hash{&asked, &written} {
		h.Write(counting(3))
		h.Write(counting(8))
		if h.Sum() != told(api.Key{}, append(counting(3), counting(8)...)) {
			t.Error("its sum of all")
		}
	}
}

func TestSumsAtOneTime(t *testing.T) { // 1.3
	var h Hash
	var all sync.WaitGroup
	sums := make([]uint64, 16)
	for i := range sums {
		all.Go(func() { sums[i] = h.Sum() })
	}
	all.Wait()
	for _, sum := range sums {
		if sum != told(api.Key{}, nil) {
			t.Fatalf("one of them is %x", sum)
		}
	}
}
