package ring

import "latticekeys/api"

// Compress keeps d bits of each coefficient modulo 3,329: the nearest of 2^d steps.
func Compress(d int, f Poly[uint16]) Poly[uint16] {
	return each(f, func(a uint16) uint16 {
		// Twice the quotient and one more, halved: no half ever comes out that could be rounded either way, since 3,329 is odd.
		step := (uint32(a)<<(d+1) + api.Small) / (2 * api.Small)
		return uint16(step & (1<<d - 1))
	})
}

// Decompress goes back from steps to the nearest coefficients, of two to the greater.
func Decompress(d int, f Poly[uint16]) Poly[uint16] {
	return each(f, func(a uint16) uint16 {
		return uint16((uint32(a)*api.Small + 1<<(d-1)) >> d)
	})
}
