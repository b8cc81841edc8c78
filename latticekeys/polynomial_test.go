package latticekeys_test

import (
	"bytes"
	"math"
	"math/big"
	"math/rand"
	"strings"
	"testing"
	"unsafe"

	"latticekeys/api"
	"latticekeys/latticekeys"
)

var moduli = []int{api.Small, api.Great}

// polyCall is a call of one polynomial: by q, or by d.
type polyCall func(n int, f api.Poly) (api.Poly, error)

func squared(q int, f api.Poly) (api.Poly, error) { return latticekeys.Product(q, f, f) }

func filled(a int) (f api.Poly) {
	for i := range f {
		f[i] = a
	}
	return f
}

func at(place, a int) (f api.Poly) {
	f[place] = a
	return f
}

func drawn(r *rand.Rand, n int) (f api.Poly) {
	for i := range f {
		f[i] = r.Intn(n)
	}
	return f
}

// polynomials in bounds of n: the edges of the bounds, single coefficients, and drawn ones.
func polynomials(n int) []api.Poly {
	r := rand.New(rand.NewSource(int64(n)))
	l := []api.Poly{{}, filled(1), filled(n - 1)}
	for _, place := range []int{0, 1, 2, 127, 128, 254, 255} {
		l = append(l, at(place, 1), at(place, n-1))
	}
	for range 8 {
		f := drawn(r, n)
		l = append(l, f)
		for i := range f {
			f[i] = []int{0, 1, n - 1, f[i]}[r.Intn(4)]
		}
		l = append(l, f)
	}
	return l
}

func wantPoly(t *testing.T, what string, got api.Poly, err error, want api.Poly) {
	t.Helper()
	if err != nil {
		t.Fatalf("%s: error %v", what, err)
	}
	for i := range want {
		if got[i] != want[i] {
			t.Fatalf("%s: %d at %d, want %d", what, got[i], i, want[i])
		}
	}
}

func wantRefused(t *testing.T, what string, got api.Poly, err error, want api.Errno) {
	t.Helper()
	if wantError(t, what, err, want); got != (api.Poly{}) {
		t.Errorf("P1: %s: a polynomial beside an error", what)
	}
}

func powerModulo(base, e, q int) int {
	return int(new(big.Int).Exp(big.NewInt(int64(base)), big.NewInt(int64(e)), big.NewInt(int64(q))).Int64())
}

func reverse(i, b int) (rev int) {
	for j := range b {
		rev |= i >> j & 1 << (b - 1 - j)
	}
	return rev
}

func root(q, i int) int {
	if q == api.Small {
		return powerModulo(17, 2*reverse(i, 7)+1, q)
	}
	return powerModulo(1753, 2*reverse(i, 8)+1, q)
}

// value is that of every step-th coefficient from the first on, taken as a polynomial.
func value(q int, f api.Poly, first, step, x int) (a int) {
	power := 1
	for i := first; i < api.N; i += step {
		a = (a + f[i]*power) % q
		power = power * x % q
	}
	return a
}

func forwardAsTold(q int, f api.Poly) (g api.Poly) {
	if q == api.Great {
		for i := range g {
			g[i] = value(q, f, 0, 1, root(q, i))
		}
		return g
	}
	for i := range api.N / 2 {
		g[2*i], g[2*i+1] = value(q, f, 0, 2, root(q, i)), value(q, f, 1, 2, root(q, i))
	}
	return g
}

func productAsTold(q int, f, g api.Poly) (h api.Poly) {
	if q == api.Great {
		for i := range h {
			h[i] = f[i] * g[i] % q
		}
		return h
	}
	for i := 0; i < api.N; i += 2 {
		h[i] = (f[i]*g[i] + f[i+1]*g[i+1]%q*root(q, i/2)) % q
		h[i+1] = (f[i]*g[i+1] + f[i+1]*g[i]) % q
	}
	return h
}

func TestP5Examples(t *testing.T) {
	g, err := latticekeys.Forward(api.Great, at(0, 1))
	wantPoly(t, "P5: Forward of 1, modulo 8380417", g, err, filled(1))
	var even api.Poly
	for i := 0; i < api.N; i += 2 {
		even[i] = 1
	}
	g, err = latticekeys.Forward(api.Small, at(0, 1))
	wantPoly(t, "P5: Forward of 1, modulo 3329", g, err, even)
}

func TestP5Forward(t *testing.T) {
	for _, q := range moduli {
		for _, f := range polynomials(q) {
			g, err := latticekeys.Forward(q, f)
			wantPoly(t, "P5: Forward", g, err, forwardAsTold(q, f))
		}
	}
}

// Every polynomial is Forward of one: Inverse must find it for what never was transformed, too.
func TestP5Inverse(t *testing.T) {
	for _, q := range moduli {
		for _, f := range polynomials(q) {
			g, err := latticekeys.Inverse(q, forwardAsTold(q, f))
			wantPoly(t, "P5: Inverse of Forward", g, err, f)
			g, err = latticekeys.Inverse(q, f)
			wantPoly(t, "P5: Forward of Inverse", forwardAsTold(q, g), err, f)
			for _, a := range g {
				if a < 0 || a >= q {
					t.Fatalf("P5: Inverse gives %d, modulo %d", a, q)
				}
			}
		}
	}
}

func TestP5Product(t *testing.T) {
	for _, q := range moduli {
		l := polynomials(q)
		for i, f := range l {
			for _, g := range []api.Poly{f, l[(i+1)%len(l)], l[len(l)-1], filled(q - 1)} {
				h, err := latticekeys.Product(q, f, g)
				wantPoly(t, "P5: Product", h, err, productAsTold(q, f, g))
			}
		}
	}
}

func TestP5ProductIsThatOfPolynomials(t *testing.T) {
	for _, q := range moduli {
		for i, f := range polynomials(q) {
			g := drawn(rand.New(rand.NewSource(int64(i))), q)
			var want api.Poly
			for i := range f {
				for j := range g {
					p := f[i] * g[j] % q
					if i+j >= api.N {
						p = (q - p) % q // X^256 is -1
					}
					want[(i+j)%api.N] = (want[(i+j)%api.N] + p) % q
				}
			}
			x, _ := latticekeys.Forward(q, f)
			y, _ := latticekeys.Forward(q, g)
			z, _ := latticekeys.Product(q, x, y)
			h, err := latticekeys.Inverse(q, z)
			wantPoly(t, "P5: product of polynomials", h, err, want)
		}
	}
}

func TestP5OtherModuli(t *testing.T) {
	for _, q := range []int{0, 1, -1, 2, 255, 256, 3327, 3328, 3330, 8380415, 8380416, 8380418, -3329, -8380417,
		3329 + 1<<16, 3329 + 1<<32, 8380417 + 1<<32, math.MaxInt, math.MinInt} {
		for _, f := range []api.Poly{{}, at(0, 1), at(255, -1), filled(math.MaxInt), filled(math.MinInt)} {
			for _, call := range []polyCall{latticekeys.Forward, latticekeys.Inverse, squared} {
				g, err := call(q, f)
				wantRefused(t, "P5: another q", g, err, api.ErrSet)
			}
		}
	}
}

// outOfBounds of n; among them numbers that a narrow word would take for some in bounds.
func outOfBounds(n int) []int {
	return []int{-1, n, n + 1, -n, 1 << 23, 1<<32 + 1, -1 << 16, -1 << 32, math.MaxInt, math.MinInt, math.MinInt + 1}
}

func TestP5OutOfBounds(t *testing.T) {
	for _, q := range moduli {
		for _, a := range outOfBounds(q) {
			for _, place := range []int{0, 1, 128, 254, 255} {
				f := at(place, a)
				for _, call := range []polyCall{latticekeys.Forward, latticekeys.Inverse, squared} {
					g, err := call(q, f)
					wantRefused(t, "P5: out of bounds", g, err, api.ErrBound)
				}
				g, err := latticekeys.Product(q, f, at(0, 1))
				wantRefused(t, "P5: the first out of bounds", g, err, api.ErrBound)
				g, err = latticekeys.Product(q, at(0, 1), f)
				wantRefused(t, "P5: the second out of bounds", g, err, api.ErrBound)
			}
		}
	}
	_, err := latticekeys.Forward(api.Small, at(3, 1<<16))
	wantError(t, "P5: 65536 modulo 3329", err, api.ErrBound)
	for _, a := range []int{api.Small, 1 << 16, api.Great - 1} {
		_, err := latticekeys.Forward(api.Great, at(3, a))
		wantError(t, "P5: in bounds of the greater q alone", err, api.OK)
	}
}

func TestP6Examples(t *testing.T) {
	f := api.Poly{832, 833, 2496, 2497}
	g, err := latticekeys.Compress(1, f)
	wantPoly(t, "P6: Compress(1)", g, err, api.Poly{0, 1, 1, 0})
	g, err = latticekeys.Decompress(1, at(0, 1))
	wantPoly(t, "P6: Decompress(1)", g, err, at(0, 1665))
}

// nearest is the whole number nearest to a / b, of two the greater, found by going through them.
func nearest(a, b, from int) int {
	n := from
	for 2*(a-n*b) >= b {
		n++
	}
	return n
}

func TestP6CompressOfAll(t *testing.T) {
	for d := 1; d <= 11; d++ {
		n := 0
		for first := 0; first < api.Small; first += api.N {
			var f, want api.Poly
			for i := range f {
				f[i] = min(first+i, api.Small-1)
				n = nearest(f[i]<<d, api.Small, n)
				want[i] = n % (1 << d)
			}
			g, err := latticekeys.Compress(d, f)
			wantPoly(t, "P6: Compress", g, err, want)
		}
	}
}

func TestP6DecompressOfAll(t *testing.T) {
	for d := 1; d <= 11; d++ {
		n := 0
		for first := 0; first < 1<<d; first += api.N {
			var f, want api.Poly
			for i := range f {
				f[i] = min(first+i, 1<<d-1)
				n = nearest(f[i]*api.Small, 1<<d, n)
				want[i] = n
			}
			g, err := latticekeys.Decompress(d, f)
			wantPoly(t, "P6: Decompress", g, err, want)
		}
	}
}

func TestP6Refused(t *testing.T) {
	calls := []polyCall{latticekeys.Compress, latticekeys.Decompress}
	for _, d := range []int{0, 12, -1, 13, 23, 64, 65, 1 + 1<<32, math.MaxInt, math.MinInt} {
		for _, f := range []api.Poly{{}, at(0, 1), at(255, -1), filled(math.MaxInt)} {
			for _, call := range calls {
				g, err := call(d, f)
				wantRefused(t, "P6: another d", g, err, api.ErrSet)
			}
		}
	}
	for d := 1; d <= 11; d++ {
		for _, place := range []int{0, 100, 255} {
			for _, a := range outOfBounds(api.Small) {
				g, err := latticekeys.Compress(d, at(place, a))
				wantRefused(t, "P6: Compress out of bounds", g, err, api.ErrBound)
			}
			for _, a := range append(outOfBounds(1<<d), 1<<16, 1<<d+1<<16) {
				g, err := latticekeys.Decompress(d, at(place, a))
				wantRefused(t, "P6: Decompress out of bounds", g, err, api.ErrBound)
			}
		}
	}
}

func packAsTold(d int, f api.Poly) string {
	packed := make([]byte, 32*d)
	for i, a := range f {
		for j := range d {
			packed[(d*i+j)/8] |= byte(a >> j & 1 << ((d*i + j) % 8))
		}
	}
	return string(packed)
}

func TestP7PackAndUnpack(t *testing.T) {
	for d := 1; d <= 23; d++ {
		for _, f := range polynomials(1 << d) {
			s, err := latticekeys.Pack(d, f)
			if wantError(t, "P7: Pack", err, api.OK); s != packAsTold(d, f) {
				t.Fatalf("P7: Pack(%d) = %x, want %x", d, s, packAsTold(d, f))
			}
			g, err := latticekeys.Unpack(d, s)
			wantPoly(t, "P7: Unpack", g, err, f)
		}
	}
}

func TestP7EveryTextIsPacked(t *testing.T) {
	r := rand.New(rand.NewSource(9))
	for d := 1; d <= 23; d++ {
		for _, s := range []string{text(r, 32*d), strings.Repeat("\xff", 32*d), strings.Repeat("\x00", 32*d)} {
			f, err := latticekeys.Unpack(d, s)
			if wantError(t, "P7: Unpack", err, api.OK); packAsTold(d, f) != s {
				t.Fatalf("P7: Unpack(%d) gives a polynomial that is packed otherwise", d)
			}
			for _, a := range f {
				if a < 0 || a >= 1<<d {
					t.Fatalf("P7: Unpack(%d) gives %d", d, a)
				}
			}
		}
	}
}

func TestP7Refused(t *testing.T) {
	for _, d := range []int{0, 24, -1, 25, 32, 64, 65, 1 + 1<<32, math.MaxInt, math.MinInt} {
		for _, f := range []api.Poly{{}, at(0, -1), filled(math.MaxInt)} {
			s, err := latticekeys.Pack(d, f)
			if wantError(t, "P7: Pack with another d", err, api.ErrSet); s != "" {
				t.Error("P1: bytes beside an error")
			}
		}
		for _, s := range []string{"", "x", strings.Repeat("x", 768)} {
			f, err := latticekeys.Unpack(d, s)
			wantRefused(t, "P7: Unpack with another d", f, err, api.ErrSet)
		}
	}
	for d := 1; d <= 23; d++ {
		for _, a := range []int{-1, 1 << d, 1<<d + 1, -1 << d, 1 << 32, math.MaxInt, math.MinInt} {
			for _, place := range []int{0, 100, 255} {
				s, err := latticekeys.Pack(d, at(place, a))
				if wantError(t, "P7: Pack out of bounds", err, api.ErrBound); s != "" {
					t.Error("P1: bytes beside an error")
				}
			}
		}
		for _, n := range []int{0, 1, 32*d - 32, 32*d - 1, 32*d + 1, 32*d + 32, 10_000} {
			f, err := latticekeys.Unpack(d, strings.Repeat("x", n))
			wantRefused(t, "P7: Unpack of too few or too many bytes", f, err, api.ErrLength)
		}
	}
}

func TestP2PackedTextIsNeitherWrittenNorKept(t *testing.T) {
	for _, d := range []int{1, 8, 12, 23} {
		under := []byte(text(rand.New(rand.NewSource(10)), 32*d))
		was := bytes.Clone(under)
		f, err := latticekeys.Unpack(d, unsafe.String(&under[0], len(under)))
		if wantError(t, "P7: Unpack", err, api.OK); !bytes.Equal(under, was) {
			t.Fatal("P2: Unpack writes into its text")
		}
		a, _ := latticekeys.Pack(d, f)
		b, _ := latticekeys.Pack(d, f)
		if unsafe.StringData(a) == unsafe.StringData(b) {
			t.Error("P2: two packed polynomials share memory")
		}
	}
}

func TestP2PolynomialCallsAtTheSameTime(t *testing.T) {
	var asked, want [16]api.Poly
	for i := range asked {
		q := moduli[i%2]
		asked[i] = drawn(rand.New(rand.NewSource(int64(i))), q)
		want[i] = productAsTold(q, forwardAsTold(q, asked[i]), asked[i])
	}
	atTheSameTime(t, func(i int) bool {
		g, _ := latticekeys.Forward(moduli[i%2], asked[i])
		h, _ := latticekeys.Product(moduli[i%2], g, asked[i])
		back, _ := latticekeys.Inverse(moduli[i%2], g)
		return h == want[i] && back == asked[i]
	})
}

func TestP2PolynomialCallsLeaveNoGoroutine(t *testing.T) {
	wantNoGoroutineLeft(t, func(i int) {
		g, _ := latticekeys.Forward(moduli[i%2], at(i, 1))
		g, _ = squared(moduli[i%2], g)
		latticekeys.Inverse(moduli[i%2], g)
		s, _ := latticekeys.Pack(1, at(i, 1))
		g, _ = latticekeys.Unpack(1, s)
		g, _ = latticekeys.Decompress(1, g)
		latticekeys.Compress(1, g)
	})
}
