// Package parts has the high and low parts of coefficients modulo 8,380,417, and hints, which tell where a sum has another high part (DOC.md, P12 to P14).
package parts

import (
	"latticekeys/api"
	"latticekeys/ring"
)

const (
	q        = api.Great
	halfStep = 1 << 13 // from one high part to the next, by Halve
)

// Poly is a polynomial modulo q.
type Poly = ring.Poly[uint32]

// Set is what a set of parameters says of parts and hints.
type Set struct {
	Gamma int // half of the step from one high part to the next, by Decompose
	K     int // polynomials whose hints are packed together
	Omega int // how many hints may be 1 there
}

// New gives ErrSet, unless there is such a set.
func New(set int) (Set, error) {
	switch set {
	case 44:
		return Set{Gamma: (q - 1) / 88, K: 4, Omega: 80}, nil
	case 65:
		return Set{Gamma: (q - 1) / 32, K: 6, Omega: 55}, nil
	case 87:
		return Set{Gamma: (q - 1) / 32, K: 8, Omega: 75}, nil
	}
	return Set{}, api.ErrSet
}

// Halve parts each coefficient by steps of 2^13. Low parts come out modulo q, as all coefficients stand; Centred tells which are below 0.
func Halve(f Poly) (high, low Poly) {
	return parted(f, func(a int) (int, int) { return nearest(a, halfStep) })
}

// Restored is what Halve parted, less the low parts. Of high parts that have 10 bits it is below q: 1,023 steps come to q - 1.
func Restored(high Poly) Poly {
	for i := range api.N {
		high[i] *= halfStep
	}
	return high
}

// Decompose parts each coefficient by steps of 2 Gamma; the low parts come out as Halve's do.
func (s Set) Decompose(f Poly) (high, low Poly) { return parted(f, s.part) }

// Centred is each coefficient mod± q.
func Centred(f Poly) api.Poly {
	var out api.Poly
	for i := range api.N {
		out[i] = centred(int(f[i]), q)
	}
	return out
}

func parted(f Poly, part func(a int) (high, low int)) (high, low Poly) {
	for i := range api.N {
		h, l := part(int(f[i]))
		high[i], low[i] = uint32(h), uint32((l+q)%q)
	}
	return high, low
}

// part: high parts go round, as numbers modulo q do: the last step from 0 ends at q - 1, which is -1, so that what is nearest to it is counted from 0.
func (s Set) part(a int) (high, low int) {
	high, low = nearest(a, 2*s.Gamma)
	if a-low == q-1 {
		return 0, low - 1
	}
	return high, low
}

// nearest is how many steps from 0 come nearest to a, of two the fewer, and what is left.
func nearest(a, step int) (steps, left int) {
	left = centred(a, step)
	return (a - left) / step, left
}

// centred is a mod± m, of an a that is not below 0.
func centred(a, m int) int {
	a %= m
	if a > m/2 {
		a -= m
	}
	return a
}
