// Package sip is a hash with a key: see DOC.md, chapter 1.
package sip

import (
	"math/bits"
	"sync"

	"quorumite/api"
)

// Hash is a SipHash-2-4 under way: it takes bytes piece by piece and tells the sum of all so far at any time.
type Hash struct {
	made  sync.Once // the words stand, made from a key
	words words
	rest  uint64 // the bytes since the last whole number, the first one lowest
	size  uint8  // how many bytes were written, modulo 256
}

// words are the four words that the bytes are stirred into.
type words struct{ a, b, c, d uint64 }

// Round is one round of the hash.
func Round(a, b, c, d uint64) (uint64, uint64, uint64, uint64) {
	a += b
	b = bits.RotateLeft64(b, 13) ^ a
	a = bits.RotateLeft64(a, 32)
	c += d
	d = bits.RotateLeft64(d, 16) ^ c
	a += d
	d = bits.RotateLeft64(d, 21) ^ a
	c += b
	b = bits.RotateLeft64(b, 17) ^ c
	c = bits.RotateLeft64(c, 32)
	return a, b, c, d
}

// Sum is SipHash-2-4 of b under the key k.
func Sum(k api.Key, b []byte) uint64 {
	h := New(k)
	h.Write(b)
	return h.Sum()
}

// New is a Hash under the key k to which nothing was written.
func New(k api.Key) *Hash {
	h := &Hash{}
	h.begin(k)
	return h
}

// Write puts b behind all that was written, and tells how many bytes that were; of nil it takes none.
func (h *Hash) Write(b []byte) int {
	if h == nil {
		return 0
	}
	h.begin(api.Key{})
	for _, x := range b {
		h.add(x)
	}
	return len(b)
}

// Sum is the sum of all that was written, which may go on behind it; 0 of nil.
func (h *Hash) Sum() uint64 {
	if h == nil {
		return 0
	}
	h.begin(api.Key{})
	w := h.words.stir(h.rest | uint64(h.size)<<56)
	w.c ^= 255
	w = w.rounds(4)
	return w.a ^ w.b ^ w.c ^ w.d
}

// begin makes the words from the key, but once only: in New, or, so that a Hash which New did not make is one of the zero key, at the first call on it.
func (h *Hash) begin(k api.Key) {
	h.made.Do(func() {
		h.words = words{
			a: k[0] ^ 0x736f6d6570736575,
			b: k[1] ^ 0x646f72616e646f6d,
			c: k[0] ^ 0x6c7967656e657261,
			d: k[1] ^ 0x7465646279746573,
		}
	})
}

// add takes one byte. 256 is a whole number of eights: so size tells the place in rest although it wraps round.
func (h *Hash) add(x byte) {
	h.rest |= uint64(x) << (h.size % 8 * 8)
	h.size++
	if h.size%8 == 0 {
		h.words = h.words.stir(h.rest)
		h.rest = 0
	}
}

// stir is the words behind the number m.
func (w words) stir(m uint64) words {
	w.d ^= m
	w = w.rounds(2)
	w.a ^= m
	return w
}

// rounds is the words behind n rounds.
func (w words) rounds(n int) words {
	for range n {
		w.a, w.b, w.c, w.d = Round(w.a, w.b, w.c, w.d)
	}
	return w
}

// Put is n in eight bytes, the lowest first.
func Put(n uint64) []byte {
	b := make([]byte, 8)
	for i := range b {
		b[i] = byte(n >> (8 * i))
	}
	return b
}

// Get is the number whose eight bytes stand in b from at on; ErrBytes, unless they do.
func Get(b []byte, at int) (uint64, int) {
	if at < 0 || at > len(b)-8 {
		return 0, api.ErrBytes
	}
	n := uint64(0)
	for i, x := range b[at : at+8] {
		n |= uint64(x) << (8 * i)
	}
	return n, api.OK
}
