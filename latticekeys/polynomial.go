package latticekeys

import (
	"latticekeys/api"
	"latticekeys/ring"
)

// The greatest numbers of bits of a coefficient: compressed, and packed.
const (
	maxCompressed = 11
	maxPacked     = 23
)

// Forward transforms a polynomial modulo q (P5).
func Forward(q int, f api.Poly) (api.Poly, error) { return modulo(q, forward, forward, f) }

// Inverse takes that back (P5).
func Inverse(q int, f api.Poly) (api.Poly, error) { return modulo(q, inverse, inverse, f) }

// Product multiplies what was transformed (P5).
func Product(q int, f, g api.Poly) (api.Poly, error) { return modulo(q, product, product, f, g) }

// Compress keeps d bits of each coefficient (P6).
func Compress(d int, f api.Poly) (api.Poly, error) {
	if d < 1 || d > maxCompressed {
		return api.Poly{}, api.ErrSet
	}
	return calculate(api.Small, func(l []ring.Poly[uint16]) ring.Poly[uint16] { return ring.Compress(d, l[0]) }, f)
}

// Decompress goes back, roughly (P6).
func Decompress(d int, f api.Poly) (api.Poly, error) {
	if d < 1 || d > maxCompressed {
		return api.Poly{}, api.ErrSet
	}
	return calculate(1<<d, func(l []ring.Poly[uint16]) ring.Poly[uint16] { return ring.Decompress(d, l[0]) }, f)
}

// Pack writes d bits of each coefficient (P7).
func Pack(d int, f api.Poly) (string, error) {
	if d < 1 || d > maxPacked {
		return "", api.ErrSet
	}
	narrow, err := ring.Narrow[uint32](f, 1<<d)
	if err != nil {
		return "", err
	}
	return string(ring.Pack(d, narrow)), nil
}

// Unpack reads them (P7).
func Unpack(d int, s string) (api.Poly, error) {
	if d < 1 || d > maxPacked {
		return api.Poly{}, api.ErrSet
	}
	if len(s) != ring.PackedBytes(d) {
		return api.Poly{}, api.ErrLength
	}
	return ring.Wide(ring.Unpack[uint32](d, s)), nil
}

// work is what a call does with its polynomials in a ring.
type work[W ring.Word] func(r *ring.Ring[W], l []ring.Poly[W]) ring.Poly[W]

func forward[W ring.Word](r *ring.Ring[W], l []ring.Poly[W]) ring.Poly[W] { return r.Forward(l[0]) }

func inverse[W ring.Word](r *ring.Ring[W], l []ring.Poly[W]) ring.Poly[W] { return r.Inverse(l[0]) }

func product[W ring.Word](r *ring.Ring[W], l []ring.Poly[W]) ring.Poly[W] {
	return r.Product(l[0], l[1])
}

// modulo does a call's work in the ring that q names.
func modulo(q int, small work[uint16], great work[uint32], l ...api.Poly) (api.Poly, error) {
	switch q {
	case api.Small:
		return calculate(q, func(l []ring.Poly[uint16]) ring.Poly[uint16] { return small(ring.Small(), l) }, l...)
	case api.Great:
		return calculate(q, func(l []ring.Poly[uint32]) ring.Poly[uint32] { return great(ring.Great(), l) }, l...)
	}
	return api.Poly{}, api.ErrSet
}

// calculate does a call's work on polynomials that must all be in bounds of n.
func calculate[W ring.Word](n int, done func(l []ring.Poly[W]) ring.Poly[W], l ...api.Poly) (api.Poly, error) {
	narrow, err := narrowed[W](n, l...)
	if err != nil {
		return api.Poly{}, err
	}
	return ring.Wide(done(narrow)), nil
}

// narrowed takes polynomials in that must all be in bounds of n.
func narrowed[W ring.Word](n int, l ...api.Poly) ([]ring.Poly[W], error) {
	narrow := make([]ring.Poly[W], len(l))
	for i, f := range l {
		var err error
		if narrow[i], err = ring.Narrow[W](f, n); err != nil {
			return nil, err
		}
	}
	return narrow, nil
}
