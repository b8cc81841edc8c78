// Package wrap has keys that are wrapped: ML-KEM (DOC.md, P8 to P11). What is wrong with what it is given it throws: a panic with an api.Errno.
package wrap

import (
	"latticekeys/api"
	"latticekeys/lattice"
	"latticekeys/ring"
)

const (
	seedBytes = 32 // of all seeds, hashes, messages and wrapped keys
	keyBits   = 12 // of a coefficient in a key
)

type (
	poly   = ring.Poly[uint16]
	vector = lattice.Vector[uint16]
)

// Scheme wraps keys by one set of parameters.
type Scheme struct {
	k      int // polynomials of a vector
	eta    int // the greatest noise of what stays secret
	du, dv int // bits that a ciphertext keeps of a coefficient
	ring   *ring.Ring[uint16]
}

// New throws ErrSet, unless there is such a set.
func New(set int) *Scheme {
	switch set {
	case 512:
		return &Scheme{k: 2, eta: 3, du: 10, dv: 4, ring: ring.Small()}
	case 768:
		return &Scheme{k: 3, eta: 2, du: 10, dv: 4, ring: ring.Small()}
	case 1024:
		return &Scheme{k: 4, eta: 2, du: 11, dv: 5, ring: ring.Small()}
	}
	panic(api.ErrSet)
}

func (s *Scheme) vectorBytes() int { return s.k * ring.PackedBytes(keyBits) }

func (s *Scheme) encapsulationKeyBytes() int { return s.vectorBytes() + seedBytes }

func (s *Scheme) decapsulationKeyBytes() int {
	return s.vectorBytes() + s.encapsulationKeyBytes() + 2*seedBytes
}

func (s *Scheme) ciphertextBytes() int {
	return s.k*ring.PackedBytes(s.du) + ring.PackedBytes(s.dv)
}
