package ring

import (
	"math/bits"

	"latticekeys/api"
)

// The numbers whose powers are the roots of X^256 + 1.
const (
	smallRoot = 17
	greatRoot = 1753
)

// Ring counts modulo one q.
type Ring[W Word] struct {
	q     W
	leaf  int              // coefficients that the transform leaves together: X^256 + 1 has not always 256 roots
	mod   func(a uint64) W // modulo q; each q has its own, since a divisor that the compiler knows costs far less
	zetas [api.N]W         // at i: the root to the power of REV(i), in as many bits as there are halvings
	scale W                // takes back that each layer of Inverse doubles
}

// Small is the ring modulo 3,329, for keys that are wrapped.
func Small() *Ring[uint16] {
	return newRing(api.Small, smallRoot, 2, func(a uint64) uint16 { return uint16(a % api.Small) })
}

// Great is the ring modulo 8,380,417, for signatures.
func Great() *Ring[uint32] {
	return newRing(api.Great, greatRoot, 1, func(a uint64) uint32 { return uint32(a % api.Great) })
}

func newRing[W Word](q, root W, leaf int, mod func(a uint64) W) *Ring[W] {
	r := &Ring[W]{q: q, leaf: leaf, mod: mod}
	leaves := api.N / leaf
	halvings := bits.Len(uint(leaves)) - 1
	power := W(1)
	for e := range leaves {
		r.zetas[reversed(e, halvings)] = power
		power = r.times(power, root)
	}
	r.scale = r.inverse(W(leaves))
	return r
}

// reversed is REV(i, b).
func reversed(i, b int) int {
	return int(bits.Reverse16(uint16(i)) >> (16 - b))
}

// inverse: q is prime, so that a to the power of q - 1 is 1.
func (r *Ring[W]) inverse(a W) W {
	power := W(1)
	for e := r.q - 2; e > 0; e /= 2 {
		if e%2 == 1 {
			power = r.times(power, a)
		}
		a = r.times(a, a)
	}
	return power
}

func (r *Ring[W]) times(a, b W) W { return r.mod(uint64(a) * uint64(b)) }

func (r *Ring[W]) plus(a, b W) W {
	c := a + b
	if c >= r.q {
		c -= r.q
	}
	return c
}

func (r *Ring[W]) minus(a, b W) W {
	c := a - b
	if a < b {
		c += r.q
	}
	return c
}

// Q is the number that the ring is modulo.
func (r *Ring[W]) Q() W { return r.q }

// Reduced takes each coefficient, of any size, modulo q.
func (r *Ring[W]) Reduced(f Poly[W]) Poly[W] {
	return each(f, func(a W) W { return a % r.q })
}

// Sum adds two polynomials, transformed both or neither.
func (r *Ring[W]) Sum(f, g Poly[W]) Poly[W] {
	for i := range f {
		f[i] = r.plus(f[i], g[i])
	}
	return f
}

// Difference takes the second from the first.
func (r *Ring[W]) Difference(f, g Poly[W]) Poly[W] {
	for i := range f {
		f[i] = r.minus(f[i], g[i])
	}
	return f
}

// Forward transforms a polynomial: layer by layer each X^2n - z^2 becomes X^n - z and X^n + z, and what was modulo it two polynomials half as long.
func (r *Ring[W]) Forward(f Poly[W]) Poly[W] {
	next := 1
	for half := api.N / 2; half >= r.leaf; half /= 2 {
		for from := 0; from < api.N; from += 2 * half {
			zeta := r.zetas[next]
			next++
			for i := from; i < from+half; i++ {
				high := r.times(zeta, f[i+half])
				f[i], f[i+half] = r.plus(f[i], high), r.minus(f[i], high)
			}
		}
	}
	return f
}

// Inverse takes Forward back, from the last layer to the first. The zetas that it divides by are, but for the sign, those of the layer the other way round.
func (r *Ring[W]) Inverse(f Poly[W]) Poly[W] {
	next := api.N/r.leaf - 1
	for half := r.leaf; half < api.N; half *= 2 {
		for from := 0; from < api.N; from += 2 * half {
			zeta := r.zetas[next]
			next--
			for i := from; i < from+half; i++ {
				low, high := f[i], f[i+half]
				f[i], f[i+half] = r.plus(low, high), r.times(zeta, r.minus(high, low))
			}
		}
	}
	return each(f, func(a W) W { return r.times(a, r.scale) })
}

// Product multiplies what was transformed.
func (r *Ring[W]) Product(f, g Poly[W]) Poly[W] {
	if r.leaf == 1 {
		return r.placeByPlace(f, g)
	}
	return r.pairByPair(f, g)
}

func (r *Ring[W]) placeByPlace(f, g Poly[W]) Poly[W] {
	for i := range f {
		f[i] = r.times(f[i], g[i])
	}
	return f
}

// pairByPair: pair i is modulo X^2 - ROOT i. The last layer's zetas are the roots of the even i; behind each comes its negative.
func (r *Ring[W]) pairByPair(f, g Poly[W]) Poly[W] {
	last := api.N / 4
	for i := range last {
		root := r.zetas[last+i]
		r.pair(&f, &g, 4*i, root)
		r.pair(&f, &g, 4*i+2, r.q-root)
	}
	return f
}

// pair multiplies the pair at one place of f by that of g.
func (r *Ring[W]) pair(f, g *Poly[W], at int, root W) {
	a, b := uint64(f[at]), uint64(f[at+1])
	c, d := uint64(g[at]), uint64(g[at+1])
	f[at] = r.mod(a*c + uint64(r.mod(b*d))*uint64(root))
	f[at+1] = r.mod(a*d + b*c)
}
