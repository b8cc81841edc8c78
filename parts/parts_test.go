package parts

import (
	"errors"
	"strings"
	"testing"

	"latticekeys/api"
)

func set(t *testing.T, number int) Set {
	t.Helper()
	s, err := New(number)
	if err != nil {
		t.Fatalf("set %d: %v", number, err)
	}
	return s
}

func TestP12P14Sets(t *testing.T) {
	for number, want := range map[int]Set{44: {95_232, 4, 80}, 65: {261_888, 6, 55}, 87: {261_888, 8, 75}} {
		if got := set(t, number); got != want || got.HintBytes() != want.Omega+want.K {
			t.Errorf("P12, P14: set %d: GAMMA, k, omega are %v, want %v", number, got, want)
		}
	}
	if s, err := New(768); !errors.Is(err, api.ErrSet) || s != (Set{}) {
		t.Errorf("P12: set 768: %v, %v", s, err)
	}
}

func TestCentred(t *testing.T) {
	f := Poly{0, 1, q / 2, q/2 + 1, q - 1}
	if got, want := Centred(f), (api.Poly{0, 1, q / 2, -q / 2, -1}); got != want {
		t.Errorf("mod± q: %v, want %v", got[:5], want[:5])
	}
	for _, c := range [][3]int{{0, 8, 0}, {4, 8, 4}, {5, 8, -3}, {8, 8, 0}, {12, 8, 4}, {13, 8, -3}, {3, 7, 3}, {4, 7, -3}} {
		if got := centred(c[0], c[1]); got != c[2] {
			t.Errorf("%d mod± %d is %d, want %d", c[0], c[1], got, c[2])
		}
	}
}

// Parts are polynomials modulo q, so that they can be packed and multiplied as they are.
func TestPartsStandModuloQ(t *testing.T) {
	high, low := Halve(Poly{0, 4096, 4097, q - 1})
	if high != (Poly{0, 0, 1, 1023}) || low != (Poly{0, 4096, q - 4095, 0}) {
		t.Errorf("Halve: %v, %v", high[:4], low[:4])
	}
	high, low = set(t, 44).Decompose(Poly{0, 95_232, 95_233, q - 1, q - 95_232, q - 95_233})
	if high != (Poly{0, 0, 1, 0, 0, 43}) || low != (Poly{0, 95_232, q - 95_231, q - 1, q - 95_232, 95_232}) {
		t.Errorf("Decompose: %v, %v", high[:6], low[:6])
	}
}

func TestRestored(t *testing.T) {
	high := Poly{0, 1, 1023, 255: 512}
	if got := Restored(high); got != (Poly{0, 8192, q - 1, 255: 4_194_304}) {
		t.Errorf("restored: %v", got)
	}
	f := Poly{0, 4096, 4097, q - 1, q - 4097, q / 2}
	parted, low := Halve(f)
	for i, a := range Restored(parted) {
		if (a+low[i])%q != f[i] {
			t.Errorf("%d comes back as %d and %d", f[i], a, low[i])
		}
	}
}

func TestArgumentsStay(t *testing.T) {
	s := set(t, 65)
	f, g := Poly{1, 0, 1}, Poly{5, 300_000, q - 1}
	was, gWas := f, g
	Halve(g)
	Restored(f)
	s.Decompose(g)
	s.Hint(f, g)
	s.UseHint(f, g)
	if f != was || g != gWas {
		t.Error("what is done to a polynomial is done to the caller's")
	}
}

func TestHintsThatCannotBePacked(t *testing.T) {
	s := set(t, 65)
	hints := make([]Poly, s.K)
	for place := range s.Omega {
		hints[2][place] = 1
	}
	packed, few := s.PackHint(hints)
	if !few || len(packed) != s.HintBytes() {
		t.Errorf("omega hints: %x, %v", packed, few)
	}
	hints[5][255] = 1
	if packed, few := s.PackHint(hints); few || packed != "" {
		t.Errorf("one hint more than omega: %x, %v", packed, few)
	}
	if l, written := s.UnpackHint(strings.Repeat("\xff", s.HintBytes())); written || l != nil {
		t.Error("a text that is no packed hints is read")
	}
}

func TestRising(t *testing.T) {
	for text, want := range map[string]bool{"": true, "\x00": true, "\x00\x01\xff": true, "\x01\x01": false, "\x02\x01": false, "\x01\x02\x02": false} {
		if rising(text) != want {
			t.Errorf("%x: rising: %v", text, !want)
		}
	}
}
