package wrap

import (
	"math/bits"

	"latticekeys/ring"
	"latticekeys/sponge"
	"latticekeys/text"
)

// noise is NOISE(eta, seed, n): a coefficient's bits stand together, those that count up below those that count down.
func (s *Scheme) noise(eta int, seed string, n int) poly {
	drawn := sponge.H(seed+text.Number(n, 1), ring.PackedBytes(2*eta))
	var up, down poly
	for i, a := range ring.Unpack[uint16](2*eta, drawn) {
		up[i] = uint16(bits.OnesCount16(a & (1<<eta - 1)))
		down[i] = uint16(bits.OnesCount16(a >> eta))
	}
	return s.ring.Difference(up, down)
}

// noises is a vector of noise, numbered from n on.
func (s *Scheme) noises(eta int, seed string, n int) vector {
	v := make(vector, s.k)
	for i := range v {
		v[i] = s.noise(eta, seed, n+i)
	}
	return v
}
