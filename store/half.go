package store

import (
	"quorumite/api"
	"quorumite/log"
	"quorumite/sector"
	"quorumite/sip"
)

// half is where each second pass stands: while one is being written, the one ahead of it is still there in the other half.
type half struct {
	disk  *sector.Disk
	first int // the sector of Place 0
	size  int // how many sectors it has
}

// found is a pass that a half holds: its number, the State's bytes, and how many cells these have. None, if the number is 0.
type found struct {
	pass  uint32
	b     []byte
	cells int
}

// halfOf is where that pass stands.
func halfOf(d *sector.Disk, pass uint32) half {
	size := d.Len() / 2
	return half{disk: d, first: size * int(pass%2), size: size}
}

// newest is the greater of the passes of both halves; ErrSum, if one of these holds what was not written so.
func newest(d *sector.Disk) (found, int) {
	var most found
	for parity := range uint32(2) {
		f, code := halfOf(d, parity).find(parity)
		if code != api.OK {
			return found{}, code
		}
		if f.pass > most.pass {
			most = f
		}
	}
	return most, api.OK
}

// find is the pass that stands in h, of passes that are so far from even. One that was not written to its end is none; ErrSum of one that was not cut off, but changed.
func (h half) find(parity uint32) (found, int) {
	f := found{pass: h.passAt(0)}
	if f.pass == 0 || f.pass%2 != parity {
		return found{}, api.OK
	}
	for place := range h.size {
		if h.passAt(place) != f.pass {
			return found{}, h.endsAt(place, f.pass)
		}
		c, code := h.cellAt(place)
		if code != api.OK || c.Kind == record {
			return found{}, api.ErrSum
		}
		f.b = append(f.b, c.Data...)
		f.cells++
		if c.Kind == last {
			return f, api.OK
		}
	}
	return found{}, api.OK
}

// endsAt is whether the pass ends ahead of that place: ErrSum, if it goes on behind it. What is cut off has nothing behind it, so then it was there and was changed.
func (h half) endsAt(place int, pass uint32) int {
	for behind := place + 1; behind < h.size; behind++ {
		if h.passAt(behind) == pass {
			return api.ErrSum
		}
	}
	return api.OK
}

// passAt is the pass of the cell at place; 0, if that is not whole. It is read where log.Put puts it, since log.Get tells none of a cell whose sum is wrong.
func (h half) passAt(place int) uint32 {
	b := h.read(place)
	if _, isWhole, _ := log.Get(b); !isWhole {
		return 0
	}
	n, _ := sip.Get(b, 0)
	return uint32(n)
}

// cellAt is the cell at place, which is whole; ErrSum of a wrong sum, and of one of another Place.
func (h half) cellAt(place int) (log.Cell, int) {
	c, _, code := log.Get(h.read(place))
	if code != api.OK || c.Place != place {
		return log.Cell{}, api.ErrSum
	}
	return c, api.OK
}

// read is the bytes of the sector at place.
func (h half) read(place int) []byte {
	b, _ := h.disk.Read(h.first + place)
	return b
}

// put writes c at its Place; ErrDown, if the disk is or goes down.
func (h half) put(c log.Cell) int {
	b, _ := log.Put(c)
	return h.disk.Write(h.first+c.Place, b)
}
