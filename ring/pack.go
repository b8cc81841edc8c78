package ring

import "latticekeys/api"

// PackedBytes are how many bytes a polynomial takes in d bits a coefficient.
func PackedBytes(d int) int { return api.N / 8 * d }

// Pack writes d bits of each coefficient, at most 23, the low ones first. All must be below 2^d.
func Pack[W Word](d int, f Poly[W]) []byte {
	packed := make([]byte, 0, PackedBytes(d))
	held, n := uint32(0), 0
	for _, a := range f {
		held |= uint32(a) << n
		for n += d; n >= 8; n -= 8 {
			packed = append(packed, byte(held))
			held >>= 8
		}
	}
	return packed
}

// Unpack reads what Pack wrote: PackedBytes(d) bytes.
func Unpack[W Word](d int, packed string) Poly[W] {
	var f Poly[W]
	held, n, next := uint32(0), 0, 0
	for i := range f {
		for ; n < d; n += 8 {
			held |= uint32(packed[next]) << n
			next++
		}
		f[i] = W(held & (1<<d - 1))
		held >>= d
		n -= d
	}
	return f
}
