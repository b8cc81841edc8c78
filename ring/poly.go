// Package ring has polynomials modulo q and X^256 + 1: their transforms, and the bits that they are written in (DOC.md, P5 to P7).
package ring

import "latticekeys/api"

// Word keeps a coefficient: the narrow one those below 3,329, the other those below 8,380,417.
type Word interface{ uint16 | uint32 }

// Poly is a polynomial. It is a value: what is done to it is done to a copy.
type Poly[W Word] [api.N]W

// Narrow takes a polynomial in from outside: ErrBound, unless it is in bounds of n, which must fit the word.
func Narrow[W Word](f api.Poly, n int) (Poly[W], error) {
	var narrow Poly[W]
	for i, a := range f {
		if a < 0 || a >= n {
			return Poly[W]{}, api.ErrBound
		}
		narrow[i] = W(a)
	}
	return narrow, nil
}

// Wide hands a polynomial out.
func Wide[W Word](f Poly[W]) api.Poly {
	var wide api.Poly
	for i, a := range f {
		wide[i] = int(a)
	}
	return wide
}

// each makes every coefficient anew, by itself.
func each[W Word](f Poly[W], made func(a W) W) Poly[W] {
	for i, a := range f {
		f[i] = made(a)
	}
	return f
}
