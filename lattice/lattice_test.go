package lattice

import (
	"crypto/sha3"
	"math/rand"
	"reflect"
	"testing"

	"latticekeys/api"
	"latticekeys/ring"
)

const rho = "a seed of thirty-two bytes, told"

func random[W ring.Word](r *rand.Rand, q, n int) Vector[W] {
	v := make(Vector[W], n)
	for i := range v {
		for j := range v[i] {
			v[i][j] = W(r.Intn(q))
		}
	}
	return v
}

// smallAsTold is P8's MATRIX(rho, i, j).
func smallAsTold(i, j int) (f ring.Poly[uint16]) {
	s := sha3.SumSHAKE128([]byte(rho+string([]byte{byte(j), byte(i)})), 3000)
	n := 0
	for ; n < api.N; s = s[3:] {
		for _, a := range []int{int(s[0]) + 256*(int(s[1])%16), int(s[1])/16 + 16*int(s[2])} {
			if a < api.Small && n < api.N {
				f[n] = uint16(a)
				n++
			}
		}
	}
	return f
}

func TestDraw(t *testing.T) {
	for _, size := range [][2]int{{1, 1}, {2, 2}, {3, 3}, {4, 4}, {2, 5}, {6, 1}} {
		m := Draw(ring.Small(), rho, size[0], size[1])
		if len(m.rows) != size[0] {
			t.Fatalf("%d rows, want %d", len(m.rows), size[0])
		}
		for i, row := range m.rows {
			if len(row) != size[1] {
				t.Fatalf("%d columns, want %d", len(row), size[1])
			}
			for j, f := range row {
				if f != smallAsTold(i, j) {
					t.Errorf("another polynomial at (%d, %d)", i, j)
				}
			}
		}
	}
}

// Modulo the greater q a number takes three bytes by itself, but for their last bit.
func TestDrawModuloTheGreaterQ(t *testing.T) {
	for i, row := range Draw(ring.Great(), rho, 2, 3).rows {
		for j, f := range row {
			s := sha3.SumSHAKE128([]byte(rho+string([]byte{byte(j), byte(i)})), 3000)
			for n, a := range f {
				want := api.Great
				for ; want >= api.Great; s = s[3:] {
					want = int(s[0]) + 256*int(s[1]) + 65536*(int(s[2])%128)
				}
				if int(a) != want {
					t.Fatalf("%d at %d of (%d, %d), want %d", a, n, i, j, want)
				}
			}
		}
	}
}

func TestDrawIsTheSameEachTime(t *testing.T) {
	want := Draw(ring.Small(), rho, 4, 4)
	for range 100 {
		if got := Draw(ring.Small(), rho, 4, 4); !reflect.DeepEqual(got.rows, want.rows) {
			t.Fatal("one seed stands for two matrices")
		}
	}
}

func TestTimes(t *testing.T) {
	r := ring.Small()
	v := random[uint16](rand.New(rand.NewSource(1)), api.Small, 3)
	got := Draw(r, rho, 2, 3).Times(v)
	for i := range 2 {
		var want ring.Poly[uint16]
		for j := range 3 {
			want = r.Sum(want, r.Product(smallAsTold(i, j), v[j]))
		}
		if len(got) != 2 || got[i] != want {
			t.Errorf("another product of row %d", i)
		}
	}
}

func TestTransposed(t *testing.T) {
	m := Draw(ring.Small(), rho, 2, 3)
	turned := m.Transposed()
	if len(turned.rows) != 3 || len(turned.rows[0]) != 2 {
		t.Fatalf("%d rows of %d", len(turned.rows), len(turned.rows[0]))
	}
	for i := range 2 {
		for j := range 3 {
			if turned.rows[j][i] != m.rows[i][j] {
				t.Errorf("(%d, %d) is not at (%d, %d)", i, j, j, i)
			}
		}
	}
	if !reflect.DeepEqual(turned.Transposed().rows, m.rows) {
		t.Error("transposed twice it is another matrix")
	}
}

func TestVectors(t *testing.T) {
	r := ring.Great()
	from := rand.New(rand.NewSource(2))
	v, w := random[uint32](from, api.Great, 3), random[uint32](from, api.Great, 3)
	vWas, wWas := v.Each(r.Reduced), w.Each(r.Reduced)
	sum, difference, forward, dot := v.With(w, r.Sum), v.With(w, r.Difference), v.Each(r.Forward), Dot(r, v, w)
	var want ring.Poly[uint32]
	for i := range v {
		if sum[i] != r.Sum(v[i], w[i]) || difference[i] != r.Difference(v[i], w[i]) || forward[i] != r.Forward(v[i]) {
			t.Errorf("another sum, difference or transform at %d", i)
		}
		want = r.Sum(want, r.Product(v[i], w[i]))
	}
	if dot != want {
		t.Error("another sum of products")
	}
	if !reflect.DeepEqual(v, vWas) || !reflect.DeepEqual(w, wWas) {
		t.Error("what is done to a vector is done to the caller's")
	}
}

func TestPackAndUnpack(t *testing.T) {
	for _, d := range []int{1, 4, 10, 11, 12} {
		v := random[uint16](rand.New(rand.NewSource(3)), 1<<d, 3)
		packed := Pack(d, v)
		if want := string(ring.Pack(d, v[0])) + string(ring.Pack(d, v[1])) + string(ring.Pack(d, v[2])); packed != want {
			t.Errorf("packed in %d bits it is another text", d)
		}
		if !reflect.DeepEqual(Unpack[uint16](d, packed), v) {
			t.Errorf("what was packed in %d bits is unpacked as another vector", d)
		}
	}
}
