package ring

import (
	"errors"
	"math/rand"
	"testing"

	"latticekeys/api"
)

func TestCounting(t *testing.T) {
	counting(t, Small(), api.Small)
	counting(t, Great(), api.Great)
}

func counting[W Word](t *testing.T, r *Ring[W], q int) {
	random := rand.New(rand.NewSource(int64(q)))
	l := []int{0, 1, 2, q / 2, q/2 + 1, q - 2, q - 1}
	for range 50 {
		l = append(l, random.Intn(q))
	}
	for _, a := range l {
		for _, b := range l {
			if got := int(r.plus(W(a), W(b))); got != (a+b)%q {
				t.Errorf("%d + %d is %d modulo %d", a, b, got, q)
			}
			if got := int(r.minus(W(a), W(b))); got != (a-b+q)%q {
				t.Errorf("%d - %d is %d modulo %d", a, b, got, q)
			}
			if got := int(r.times(W(a), W(b))); got != a*b%q {
				t.Errorf("%d times %d is %d modulo %d", a, b, got, q)
			}
		}
		if got := int(r.times(W(a), r.inverse(W(a)))); a != 0 && got != 1 {
			t.Errorf("%d times its inverse is %d modulo %d", a, got, q)
		}
	}
}

func TestSumDifferenceAndReduced(t *testing.T) {
	sumAndDifference(t, Small(), api.Small)
	sumAndDifference(t, Great(), api.Great)
}

func sumAndDifference[W Word](t *testing.T, r *Ring[W], q int) {
	if int(r.Q()) != q {
		t.Errorf("the ring modulo %d is modulo %d", q, r.Q())
	}
	top := W(q - 1)
	f, g := Poly[W]{0, 0, 1, top, top, 5}, Poly[W]{0, 1, top, top, 1, 3}
	if got, want := r.Sum(f, g), (Poly[W]{0, 1, 0, top - 1, 0, 8}); got != want {
		t.Errorf("the sum modulo %d is %v", q, got)
	}
	if got, want := r.Difference(f, g), (Poly[W]{0, top, 2, 0, top - 1, 2}); got != want {
		t.Errorf("the difference modulo %d is %v", q, got)
	}
	h := Poly[W]{0, top, top + 1, top + 2, 2*top + 2, ^W(0), 255: top + 1}
	if got, want := r.Reduced(h), (Poly[W]{0, top, 0, 1, 0, ^W(0) % W(q)}); got != want {
		t.Errorf("reduced modulo %d it is %v", q, got)
	}
}

func TestReversed(t *testing.T) {
	for _, c := range [][3]int{{0, 7, 0}, {1, 7, 64}, {64, 7, 1}, {6, 7, 48}, {127, 7, 127}, {1, 8, 128}, {128, 8, 1}, {255, 8, 255}} {
		if got := reversed(c[0], c[1]); got != c[2] {
			t.Errorf("%d in %d bits, the other way round, is %d, want %d", c[0], c[1], got, c[2])
		}
	}
}

// Each zeta's square is the zeta, or its negative, that was halved to come to it: what Forward's layers lean on.
func TestZetasAreRootsOfTheLayerAbove(t *testing.T) {
	r := Great()
	for i := 1; i < api.N/2; i++ {
		low, high := r.zetas[2*i], r.zetas[2*i+1]
		if r.times(low, low) != r.zetas[i] || r.times(high, high) != r.q-r.zetas[i] {
			t.Errorf("the zetas below %d are no roots of it", i)
		}
	}
	if z := r.zetas[1]; r.times(z, z) != r.q-1 {
		t.Error("the first zeta is no root of -1")
	}
}

func TestArgumentsStay(t *testing.T) {
	r := Small()
	f, g := Poly[uint16]{1, 2, 3}, Poly[uint16]{4, 5, 6}
	was, gWas := f, g
	r.Forward(f)
	r.Inverse(f)
	r.Product(f, g)
	r.Sum(f, g)
	r.Difference(f, g)
	r.Reduced(f)
	Compress(4, f)
	if f != was || g != gWas {
		t.Error("what is done to a polynomial is done to the caller's")
	}
}

func TestNarrowAndWide(t *testing.T) {
	f := api.Poly{0: 0, 1: 3328, 255: 7}
	narrow, err := Narrow[uint16](f, api.Small)
	if err != nil || Wide(narrow) != f {
		t.Errorf("Narrow: %v, %v", narrow, err)
	}
	for _, a := range []int{-1, 3329, 1 << 16, 1<<16 + 1, -1 << 16} {
		f[255] = a
		narrow, err = Narrow[uint16](f, api.Small)
		if !errors.Is(err, api.ErrBound) || narrow != (Poly[uint16]{}) {
			t.Errorf("Narrow of %d: %v", a, err)
		}
	}
}

func TestPackOfBothWords(t *testing.T) {
	narrow, wide := Poly[uint16]{0x123, 0x456, 0xfff}, Poly[uint32]{0x123, 0x456, 0xfff}
	a, b := string(Pack(12, narrow)), string(Pack(12, wide))
	if want := "\x23\x61\x45\xff\x0f"; a != b || a[:5] != want || len(a) != 384 {
		t.Errorf("packed: %x and %x, want %x ahead", a[:5], b[:5], want)
	}
	if Unpack[uint16](12, a) != narrow || Unpack[uint32](12, a) != wide {
		t.Error("what was packed is unpacked as another polynomial")
	}
}
