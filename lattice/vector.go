// Package lattice has vectors and matrices of polynomials, and draws a matrix from a seed (DOC.md, P8 and P15).
package lattice

import (
	"strings"

	"latticekeys/ring"
)

// Vector is a column of polynomials. What is done to it is done to a new one.
type Vector[W ring.Word] []ring.Poly[W]

// Each makes every polynomial anew, by itself.
func (v Vector[W]) Each(made func(f ring.Poly[W]) ring.Poly[W]) Vector[W] {
	out := make(Vector[W], len(v))
	for i, f := range v {
		out[i] = made(f)
	}
	return out
}

// With makes every polynomial anew with the one beside it in a vector that is equally long.
func (v Vector[W]) With(w Vector[W], made func(f, g ring.Poly[W]) ring.Poly[W]) Vector[W] {
	out := make(Vector[W], len(v))
	for i, f := range v {
		out[i] = made(f, w[i])
	}
	return out
}

// Dot is the sum of the products of two vectors that are transformed and equally long.
func Dot[W ring.Word](r *ring.Ring[W], v, w Vector[W]) ring.Poly[W] {
	var sum ring.Poly[W]
	for i := range v {
		sum = r.Sum(sum, r.Product(v[i], w[i]))
	}
	return sum
}

// Pack writes polynomial by polynomial, in d bits a coefficient.
func Pack[W ring.Word](d int, v Vector[W]) string {
	var packed strings.Builder
	for _, f := range v {
		packed.Write(ring.Pack(d, f))
	}
	return packed.String()
}

// Unpack reads what Pack wrote: a multiple of ring.PackedBytes(d) bytes.
func Unpack[W ring.Word](d int, packed string) Vector[W] {
	v := make(Vector[W], len(packed)/ring.PackedBytes(d))
	for i := range v {
		v[i] = ring.Unpack[W](d, packed[i*ring.PackedBytes(d):])
	}
	return v
}
