package sign

import (
	"math/bits"

	"latticekeys/lattice"
	"latticekeys/parts"
	"latticekeys/ring"
)

// span is where coefficients lie, mod± q: from -below to above.
type span struct{ below, above int }

func (s span) bits() int { return bits.Len(uint(s.below + s.above)) }

// bytes are how many a polynomial takes that is packed.
func (s span) bytes() int { return ring.PackedBytes(s.bits()) }

// packed is PACKED(f, below, above) of each f.
func (s span) packed(r *ring.Ring[uint32], v vector) string {
	return lattice.Pack(s.bits(), s.turned(r, v))
}

// unpacked reads what packed wrote. Where there is room for it in the bits, what comes out may lie outside the span.
func (s span) unpacked(r *ring.Ring[uint32], packed string) vector {
	return s.turned(r, lattice.Unpack[uint32](s.bits(), packed))
}

// turned is above less each coefficient; turned twice, each is what it was.
func (s span) turned(r *ring.Ring[uint32], v vector) vector {
	var above poly
	for i := range above {
		above[i] = uint32(s.above)
	}
	return v.Each(func(f poly) poly { return r.Difference(above, f) })
}

// reach is how far from 0, mod± q, a coefficient is at most.
func reach(v vector) int {
	far := 0
	for _, f := range v {
		for _, a := range parts.Centred(f) {
			far = max(far, a, -a)
		}
	}
	return far
}
