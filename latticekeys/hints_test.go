package latticekeys_test

import (
	"bytes"
	"math"
	"math/rand"
	"slices"
	"strings"
	"testing"
	"unsafe"

	"latticekeys/api"
	"latticekeys/latticekeys"
)

// signSet is a set as P12 and P14 tell it; its methods are P12 to P14 word by word.
type signSet struct{ set, gamma, k, omega int }

var signSets = []signSet{{44, 95_232, 4, 80}, {65, 261_888, 6, 55}, {87, 261_888, 8, 75}}

var otherSignSets = []int{0, 1, -1, 2, 3, 4, 43, 45, 64, 66, 86, 88, 512, 768, 1024, -44, -65, -87,
	44 + 1<<8, 65 + 1<<16, 87 + 1<<32, math.MaxInt, math.MinInt}

func modPlusMinus(a, m int) int {
	for low := a%m - m; ; low += m {
		if 2*low > -m {
			return low
		}
	}
}

func halveAsTold(a int) (int, int) {
	low := modPlusMinus(a, 8192)
	return (a - low) / 8192, low
}

func (w signSet) decomposed(a int) (int, int) {
	low := modPlusMinus(a, 2*w.gamma)
	if a-low == api.Great-1 {
		return 0, low - 1
	}
	return (a - low) / (2 * w.gamma), low
}

func (w signSet) hint(z, r int) int {
	a, _ := w.decomposed(r)
	if b, _ := w.decomposed((r + z) % api.Great); a != b {
		return 1
	}
	return 0
}

func (w signSet) useHint(h, r int) int {
	m := (api.Great - 1) / (2 * w.gamma)
	high, low := w.decomposed(r)
	if h == 1 && low > 0 {
		return (high + 1) % m
	}
	return (high + m - h) % m
}

func (w signSet) packHint(l []api.Poly) (string, bool) {
	var places, ends []byte
	for _, f := range l {
		for j, a := range f {
			if a == 1 {
				places = append(places, byte(j))
			}
		}
		ends = append(ends, byte(len(places)))
	}
	noughts := w.omega - len(places)
	return string(places) + strings.Repeat("\x00", max(0, noughts)) + string(ends), noughts >= 0
}

// unpackHint reads any text as if it were packed hints, and tells whether they are packed so.
func (w signSet) unpackHint(s string) ([]api.Poly, bool) {
	l := make([]api.Poly, w.k)
	n := 0
	for i := range l {
		for ; n < min(w.omega, int(s[w.omega+i])); n++ {
			l[i][s[n]] = 1
		}
	}
	packed, few := w.packHint(l)
	return l, few && packed == s
}

// all polynomials that it takes to have every coefficient modulo q once.
func all(yield func(f api.Poly) bool) {
	for first := 0; first < api.Great; first += api.N {
		var f api.Poly
		for i := range f {
			f[i] = min(first+i, api.Great-1)
		}
		if !yield(f) {
			return
		}
	}
}

// edges are the numbers around which high parts change, and those around 0 and q.
func (w signSet) edges() (l []int) {
	for around := 0; around <= api.Great; around += w.gamma {
		for a := around - 2; a <= around+2; a++ {
			if a >= 0 && a < api.Great {
				l = append(l, a)
			}
		}
	}
	return l
}

// some numbers modulo q: edges, small ones, those as far from 0 as from edge to edge, and drawn ones.
func (w signSet) some(r *rand.Rand) (f api.Poly) {
	l := w.edges()
	for i := range f {
		near := []int{r.Intn(5), w.gamma - r.Intn(5), w.gamma + r.Intn(5), 2*w.gamma - r.Intn(5)}[r.Intn(4)]
		f[i] = []int{l[r.Intn(len(l))], near, (api.Great - near) % api.Great, r.Intn(api.Great)}[r.Intn(4)]
	}
	return f
}

func wantParts(t *testing.T, what string, f, high, low api.Poly, err error, told func(a int) (int, int)) {
	t.Helper()
	if err != nil {
		t.Fatalf("%s: error %v", what, err)
	}
	for i, a := range f {
		if h, l := told(a); high[i] != h || low[i] != l {
			t.Fatalf("%s of %d: %d and %d, want %d and %d", what, a, high[i], low[i], h, l)
		}
	}
}

func TestP12Examples(t *testing.T) {
	high, low, err := latticekeys.Halve(api.Poly{4096, 4097})
	wantPoly(t, "P12: Halve's high parts", high, err, api.Poly{0, 1})
	wantPoly(t, "P12: Halve's low parts", low, err, api.Poly{4096, -4095})
	high, low, err = latticekeys.Decompose(44, api.Poly{95_232, 95_233, 8_380_416})
	wantPoly(t, "P12: Decompose's high parts", high, err, api.Poly{0, 1, 0})
	wantPoly(t, "P12: Decompose's low parts", low, err, api.Poly{95_232, -95_231, -1})
}

func TestP12PartsOfAll(t *testing.T) {
	for f := range all {
		high, low, err := latticekeys.Halve(f)
		wantParts(t, "P12: Halve", f, high, low, err, halveAsTold)
		for _, w := range signSets {
			high, low, err := latticekeys.Decompose(w.set, f)
			wantParts(t, "P12: Decompose", f, high, low, err, w.decomposed)
		}
	}
}

func TestP12PlacesArePartedByThemselves(t *testing.T) {
	r := rand.New(rand.NewSource(20))
	for _, w := range signSets {
		for _, f := range append(polynomials(api.Great), w.some(r), w.some(r), w.some(r)) {
			high, low, err := latticekeys.Halve(f)
			wantParts(t, "P12: Halve", f, high, low, err, halveAsTold)
			high, low, err = latticekeys.Decompose(w.set, f)
			wantParts(t, "P12: Decompose", f, high, low, err, w.decomposed)
		}
	}
}

func TestP13HintAsTold(t *testing.T) {
	r := rand.New(rand.NewSource(21))
	for _, w := range signSets {
		l := []api.Poly{{}, filled(1), filled(api.Great - 1), filled(w.gamma), filled(2 * w.gamma)}
		for range 100 {
			l = append(l, w.some(r))
		}
		for i, z := range l {
			f := l[(7*i+5)%len(l)]
			var want api.Poly
			ones := 0
			for i := range want {
				want[i] = w.hint(z[i], f[i])
				ones += want[i]
			}
			h, n, err := latticekeys.Hint(w.set, z, f)
			wantPoly(t, "P13: Hint", h, err, want)
			if n != ones {
				t.Fatalf("P13: set %d: %d hints are 1, want %d", w.set, n, ones)
			}
		}
	}
}

func TestP13HintIsOneEverywhereOrNowhere(t *testing.T) {
	for _, w := range signSets {
		for _, c := range []struct{ z, r, want int }{
			{0, 0, 0}, {0, api.Great - 1, 0}, {w.gamma, 0, 0}, {w.gamma + 1, 0, 1}, {1, w.gamma, 1},
			{1, api.Great - 1, 0}, {api.Great - 1, 0, 0}, {2, api.Great - 2, 0},
			{api.Great - w.gamma, 0, 0}, {api.Great - w.gamma - 1, 0, 1}, {api.Great - 1, w.gamma + 1, 1},
		} {
			h, n, err := latticekeys.Hint(w.set, filled(c.z), filled(c.r))
			wantPoly(t, "P13: Hint", h, err, filled(c.want))
			if n != c.want*api.N {
				t.Errorf("P13: set %d: Hint of %d and %d: %d are 1", w.set, c.z, c.r, n)
			}
		}
	}
}

func TestP13UseHintOfAll(t *testing.T) {
	for f := range all {
		for _, w := range signSets {
			for h := range 2 {
				var want api.Poly
				for i, a := range f {
					want[i] = w.useHint(h, a)
				}
				g, err := latticekeys.UseHint(w.set, filled(h), f)
				wantPoly(t, "P13: UseHint", g, err, want)
			}
		}
	}
}

func TestP13HintsCountPlaceByPlace(t *testing.T) {
	r := rand.New(rand.NewSource(22))
	for _, w := range signSets {
		for range 50 {
			h, f := drawn(r, 2), w.some(r)
			var want api.Poly
			for i, a := range f {
				want[i] = w.useHint(h[i], a)
			}
			g, err := latticekeys.UseHint(w.set, h, f)
			wantPoly(t, "P13: UseHint", g, err, want)
		}
	}
}

// What hints are for: of a z that is at most GAMMA the hint and r tell the high part of r + z.
func TestP13HintsTellTheSum(t *testing.T) {
	r := rand.New(rand.NewSource(23))
	for _, w := range signSets {
		for range 100 {
			f := w.some(r)
			var z, sum api.Poly
			for i := range z {
				a := []int{0, 1, -1, w.gamma, -w.gamma, r.Intn(2*w.gamma+1) - w.gamma}[r.Intn(6)]
				z[i], sum[i] = (a+api.Great)%api.Great, (a+f[i]+api.Great)%api.Great
			}
			h, _, err := latticekeys.Hint(w.set, z, f)
			wantError(t, "P13: Hint", err, api.OK)
			got, err := latticekeys.UseHint(w.set, h, f)
			want, _, _ := latticekeys.Decompose(w.set, sum)
			wantPoly(t, "P13: UseHint of Hint", got, err, want)
		}
	}
}

func wantTwoRefused(t *testing.T, what string, f, g api.Poly, err error, want api.Errno) {
	t.Helper()
	wantRefused(t, what, f, err, want)
	wantRefused(t, what, g, err, want)
}

func wantHintRefused(t *testing.T, what string, h api.Poly, ones int, err error, want api.Errno) {
	t.Helper()
	if wantRefused(t, what, h, err, want); ones != 0 {
		t.Errorf("P1: %s: %d beside an error", what, ones)
	}
}

func TestP12To13OtherSets(t *testing.T) {
	for _, set := range otherSignSets {
		for _, f := range []api.Poly{{}, at(0, 1), at(255, -1), filled(math.MaxInt), filled(math.MinInt)} {
			a, b, err := latticekeys.Decompose(set, f)
			wantTwoRefused(t, "P12: Decompose of another set", a, b, err, api.ErrSet)
			h, ones, err := latticekeys.Hint(set, f, f)
			wantHintRefused(t, "P13: Hint of another set", h, ones, err, api.ErrSet)
			h, err = latticekeys.UseHint(set, f, f)
			wantRefused(t, "P13: UseHint of another set", h, err, api.ErrSet)
		}
	}
}

func TestP12To13OutOfBounds(t *testing.T) {
	for _, place := range []int{0, 1, 128, 254, 255} {
		for _, a := range outOfBounds(api.Great) {
			f, good := at(place, a), filled(api.Great-1)
			g, h, err := latticekeys.Halve(f)
			wantTwoRefused(t, "P12: Halve out of bounds", g, h, err, api.ErrBound)
			for _, w := range signSets {
				g, h, err := latticekeys.Decompose(w.set, f)
				wantTwoRefused(t, "P12: Decompose out of bounds", g, h, err, api.ErrBound)
				for _, l := range [][2]api.Poly{{f, good}, {good, f}, {f, f}} {
					g, ones, err := latticekeys.Hint(w.set, l[0], l[1])
					wantHintRefused(t, "P13: Hint out of bounds", g, ones, err, api.ErrBound)
				}
				g, err = latticekeys.UseHint(w.set, filled(1), f)
				wantRefused(t, "P13: UseHint of r out of bounds", g, err, api.ErrBound)
			}
		}
		for _, a := range append(outOfBounds(2), api.Great-1, api.Great) {
			for _, w := range signSets {
				g, err := latticekeys.UseHint(w.set, at(place, a), api.Poly{})
				wantRefused(t, "P13: UseHint of h out of bounds", g, err, api.ErrBound)
			}
		}
	}
}

// spread has that many hints that are 1, at drawn places.
func (w signSet) spread(r *rand.Rand, ones int) []api.Poly {
	l := make([]api.Poly, w.k)
	for _, place := range r.Perm(api.N * w.k)[:ones] {
		l[place/api.N][place%api.N] = 1
	}
	return l
}

// gathered has that many hints that are 1 in one polynomial, from a place on.
func (w signSet) gathered(i, place, ones int) []api.Poly {
	l := make([]api.Poly, w.k)
	for j := range ones {
		l[i][place+j] = 1
	}
	return l
}

func (w signSet) wantPacked(t *testing.T, l []api.Poly) string {
	t.Helper()
	s, err := latticekeys.PackHint(w.set, l)
	want, few := w.packHint(l)
	if !few {
		if wantError(t, "P14: PackHint of too many", err, api.ErrHint); s != "" {
			t.Fatal("P1: bytes beside an error")
		}
		return ""
	}
	if wantError(t, "P14: PackHint", err, api.OK); s != want {
		t.Fatalf("P14: set %d: packed hints are %x, want %x", w.set, s, want)
	}
	return s
}

// wantUnpacked tells whether the text is packed hints.
func (w signSet) wantUnpacked(t *testing.T, s string) bool {
	t.Helper()
	l, err := latticekeys.UnpackHint(w.set, s)
	want, packed := w.unpackHint(s)
	if !packed {
		if wantError(t, "P14: UnpackHint of what is not packed so", err, api.ErrHint); l != nil {
			t.Fatal("P1: polynomials beside an error")
		}
		return false
	}
	if wantError(t, "P14: UnpackHint", err, api.OK); !slices.Equal(l, want) {
		t.Fatalf("P14: set %d: other hints are unpacked of %x", w.set, s)
	}
	return true
}

func TestP14PackedAndUnpacked(t *testing.T) {
	r := rand.New(rand.NewSource(24))
	for _, w := range signSets {
		l := [][]api.Poly{make([]api.Poly, w.k)}
		for i := range w.k {
			l = append(l, w.gathered(i, 0, 1), w.gathered(i, 255, 1), w.gathered(i, 0, w.omega), w.gathered(i, 256-w.omega, w.omega))
		}
		for ones := range w.omega + 1 {
			l = append(l, w.spread(r, ones))
		}
		for _, hints := range l {
			s := w.wantPacked(t, hints)
			if len(s) != w.omega+w.k || !w.wantUnpacked(t, s) {
				t.Fatalf("P14: set %d: hints are packed as %x", w.set, s)
			}
			got, err := latticekeys.UnpackHint(w.set, s)
			if wantError(t, "P14: UnpackHint", err, api.OK); !slices.Equal(got, hints) {
				t.Fatalf("P14: set %d: other hints come back of %x", w.set, s)
			}
		}
	}
}

func TestP14TooManyHints(t *testing.T) {
	r := rand.New(rand.NewSource(25))
	for _, w := range signSets {
		l := [][]api.Poly{w.gathered(0, 0, w.omega+1), w.gathered(w.k-1, 0, w.omega+1), w.gathered(w.k-1, 0, 256), make([]api.Poly, w.k)}
		for i := range w.k {
			l[3][i] = filled(1)
		}
		for _, ones := range []int{w.omega + 1, w.omega + 2, 255, 256, 257, 256 + w.omega} {
			l = append(l, w.spread(r, ones))
		}
		l = append(l, w.gathered(0, 0, w.omega))
		l[len(l)-1][w.k-1][255] = 1
		for _, hints := range l {
			_, err := latticekeys.PackHint(w.set, hints)
			wantError(t, "P14: too many hints", err, api.ErrHint)
			w.wantPacked(t, hints)
		}
	}
}

func TestP14TextsWithAnotherByte(t *testing.T) {
	r := rand.New(rand.NewSource(26))
	for _, w := range signSets {
		read, refused := 0, 0
		for _, ones := range []int{w.omega / 2, w.omega} {
			s, _ := w.packHint(w.spread(r, ones))
			for place := range s {
				for by := range 256 {
					if w.wantUnpacked(t, turned(s, place, byte(by))) {
						read++
					} else {
						refused++
					}
				}
			}
		}
		if read < 1000 || refused < 1000 {
			t.Errorf("P14: set %d: of the texts %d are read, %d refused", w.set, read, refused)
		}
	}
}

// hinted has places, noughts and ends.
func (w signSet) hinted(places string, ends ...byte) string {
	b := make([]byte, w.omega+w.k)
	copy(b, places)
	for i := range w.k {
		b[w.omega+i] = ends[min(i, len(ends)-1)] // the last one goes on
	}
	return string(b)
}

type hintText struct {
	what, s string
	are     bool
}

// hintTexts are texts at the edges of what packed hints are, and whether they are some.
func (w signSet) hintTexts() []hintText {
	omega := byte(w.omega)
	full := make([]byte, w.omega)
	for i := range full {
		full[i] = byte(i)
	}
	return []hintText{
		{"noughts", w.hinted("", 0), true},
		{"a place 0", w.hinted("\x00", 1), true},
		{"a place 255", w.hinted("\xff", 1), true},
		{"falling from polynomial to polynomial", w.hinted("\x05\x04", 1, 2), true},
		{"a place in two polynomials", w.hinted("\x05\x05", 1, 2), true},
		{"just omega", w.hinted(string(full), omega), true},
		{"just omega, in the last one", w.hinted(string(full), append(make([]byte, w.k-1), omega)...), true},
		{"falling", w.hinted("\x05\x04", 2), false},
		{"a place twice", w.hinted("\x05\x05", 2), false},
		{"place 0 twice", w.hinted("", 2), false},
		{"falling at the end", w.hinted("\x01\x02\x03\x02", 4), false},
		{"ends that fall", w.hinted("\x01\x02", 2, 1), false},
		{"ends that fall at last", w.hinted("\x01\x02", append([]byte(strings.Repeat("\x02", w.k-1)), 0)...), false},
		{"an end behind omega", w.hinted(string(full), omega+1), false},
		{"a last end behind omega", w.hinted(string(full), append(make([]byte, w.k-1), omega+1)...), false},
		{"an end that is 255", w.hinted(string(full), 255), false},
		{"an end behind omega that falls", w.hinted(string(full), 255, 0), false},
		{"a place behind the last end", w.hinted("\x01\x02", 1), false},
		{"places and no end", w.hinted("\x01", 0), false},
		{"a last place behind the last end", w.hinted(string(full), omega-1), false},
		{"nothing but 255", strings.Repeat("\xff", w.omega+w.k), false},
	}
}

func TestP14TextsThatAreNoHints(t *testing.T) {
	for _, w := range signSets {
		for _, c := range w.hintTexts() {
			if w.wantUnpacked(t, c.s) != c.are {
				t.Errorf("P14: set %d: %s: hints: %v, want %v", w.set, c.what, !c.are, c.are)
			}
		}
	}
}

func TestP14DrawnTexts(t *testing.T) {
	r := rand.New(rand.NewSource(27))
	for _, w := range signSets {
		for range 3000 {
			s, _ := w.packHint(w.spread(r, r.Intn(w.omega+1)))
			b := []byte(s)
			for range 1 + r.Intn(3) {
				place := []int{r.Intn(w.omega), w.omega + r.Intn(w.k)}[r.Intn(2)]
				b[place] = byte([]int{int(b[place]) + 1, int(b[place]) - 1, int(b[r.Intn(len(b))]), 0}[r.Intn(4)])
			}
			w.wantUnpacked(t, string(b))
			w.wantUnpacked(t, text(r, len(b)))
		}
	}
}

// Lists that have several faults: the answer is the one that is named first.
func TestP14Refused(t *testing.T) {
	refused := func(what string, set int, l []api.Poly, want api.Errno) {
		t.Helper()
		s, err := latticekeys.PackHint(set, l)
		if wantError(t, what, err, want); s != "" {
			t.Errorf("P1: %s: bytes beside an error", what)
		}
	}
	ones := slices.Repeat([]api.Poly{filled(1)}, 9)
	wild := slices.Repeat([]api.Poly{filled(math.MinInt)}, 9)
	for _, set := range otherSignSets {
		for _, l := range [][]api.Poly{nil, {}, make([]api.Poly, 4), ones[:6], wild[:8], wild} {
			refused("P14: PackHint of another set", set, l, api.ErrSet)
		}
	}
	for _, w := range signSets {
		for n := range 10 {
			if n != w.k {
				refused("P14: another number of polynomials", w.set, make([]api.Poly, n), api.ErrLength)
				refused("P14: another number of polynomials, too many hints", w.set, ones[:n], api.ErrLength)
				refused("P14: another number of polynomials, out of bounds", w.set, wild[:n], api.ErrLength)
			}
		}
		refused("P14: no polynomials", w.set, nil, api.ErrLength)
		refused("P14: a thousand polynomials", w.set, make([]api.Poly, 1000), api.ErrLength)
		for i := range w.k {
			for _, a := range append(outOfBounds(2), api.Great) {
				l := make([]api.Poly, w.k)
				l[i][(i*37+255)%api.N] = a
				refused("P14: out of bounds", w.set, l, api.ErrBound)
				l = slices.Clone(ones[:w.k])
				l[i][0] = a
				refused("P14: out of bounds, too many hints", w.set, l, api.ErrBound)
			}
		}
	}
}

func TestP14OtherTextsAreRefused(t *testing.T) {
	refused := func(what string, set int, s string, want api.Errno) {
		t.Helper()
		l, err := latticekeys.UnpackHint(set, s)
		if wantError(t, what, err, want); l != nil {
			t.Errorf("P1: %s: polynomials beside an error", what)
		}
	}
	for _, set := range otherSignSets {
		for _, n := range []int{0, 1, 61, 83, 84} {
			refused("P14: UnpackHint of another set", set, strings.Repeat("\x00", n), api.ErrSet)
			refused("P14: UnpackHint of another set", set, strings.Repeat("\xff", n), api.ErrSet)
		}
	}
	for _, w := range signSets {
		for _, n := range []int{0, 1, w.k, w.omega, w.omega + w.k - 1, w.omega + w.k + 1, 61, 83, 84, 1000} {
			if n != w.omega+w.k {
				refused("P14: UnpackHint of another length", w.set, strings.Repeat("\x00", n), api.ErrLength)
				refused("P14: UnpackHint of another length", w.set, strings.Repeat("\xff", n), api.ErrLength)
			}
		}
	}
}

func TestP2HintsAreNeitherWrittenNorKept(t *testing.T) {
	r := rand.New(rand.NewSource(28))
	for _, w := range signSets {
		hints := w.spread(r, w.omega)
		behind := append(slices.Clone(hints), filled(7), filled(8))
		s, err := latticekeys.PackHint(w.set, behind[:w.k])
		want, _ := w.packHint(hints)
		if wantError(t, "P14: PackHint", err, api.OK); !slices.Equal(behind, append(slices.Clone(hints), filled(7), filled(8))) {
			t.Fatalf("P2: set %d: PackHint writes into its list, or behind it", w.set)
		}
		if clear(behind); s != want {
			t.Errorf("P2: set %d: packed hints change with the list", w.set)
		}
		again := sure(latticekeys.PackHint(w.set, hints))
		if unsafe.StringData(s) == unsafe.StringData(again) {
			t.Errorf("P2: set %d: two texts of packed hints share memory", w.set)
		}
		under := []byte(s)
		l, err := latticekeys.UnpackHint(w.set, unsafe.String(&under[0], len(under)))
		if wantError(t, "P14: UnpackHint", err, api.OK); !bytes.Equal(under, []byte(s)) {
			t.Fatalf("P2: set %d: UnpackHint writes into its text", w.set)
		}
		if clear(under); !slices.Equal(l, hints) {
			t.Errorf("P2: set %d: unpacked hints change with the text", w.set)
		}
		other := sure(latticekeys.UnpackHint(w.set, s))
		if clear(l); !slices.Equal(other, hints) {
			t.Errorf("P2: set %d: two lists of hints share memory", w.set)
		}
	}
}

func TestP2HintsAtTheSameTime(t *testing.T) {
	r := rand.New(rand.NewSource(29))
	var f, z, high, low, hints, used [16]api.Poly
	var packed [16]string
	for i := range f {
		w := signSets[i%3]
		f[i], z[i] = w.some(r), w.some(r)
		for j, a := range f[i] {
			high[i][j], low[i][j] = w.decomposed(a)
			hints[i][j] = w.hint(z[i][j], a)
			used[i][j] = w.useHint(hints[i][j], a)
		}
		packed[i], _ = w.packHint(w.spread(r, w.omega))
	}
	atTheSameTime(t, func(i int) bool {
		set := signSets[i%3].set
		gotHigh, gotLow, _ := latticekeys.Decompose(set, f[i])
		gotHints, _, _ := latticekeys.Hint(set, z[i], f[i])
		gotUsed, _ := latticekeys.UseHint(set, hints[i], f[i])
		l, _ := latticekeys.UnpackHint(set, packed[i])
		again, _ := latticekeys.PackHint(set, l)
		return gotHigh == high[i] && gotLow == low[i] && gotHints == hints[i] && gotUsed == used[i] && again == packed[i]
	})
}

func TestP2HintsLeaveNoGoroutine(t *testing.T) {
	wantNoGoroutineLeft(t, func(i int) {
		w := signSets[i%3]
		latticekeys.Halve(filled(i))
		latticekeys.Decompose(w.set, filled(i))
		h, _, _ := latticekeys.Hint(w.set, filled(i), filled(w.gamma))
		latticekeys.UseHint(w.set, h, filled(i))
		s, _ := latticekeys.PackHint(w.set, w.gathered(0, 0, i%w.omega))
		latticekeys.UnpackHint(w.set, s)
		latticekeys.UnpackHint(w.set, w.hinted("\x01", 0))
	})
}
