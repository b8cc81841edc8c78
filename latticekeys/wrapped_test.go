package latticekeys_test

import (
	"crypto/mlkem"
	"crypto/mlkem/mlkemtest"
	"crypto/sha3"
	"encoding/hex"
	"math"
	"math/rand"
	"strings"
	"testing"

	"latticekeys/api"
	"latticekeys/latticekeys"
)

// wrapSet is a set as P8 tells it; its methods are P8 to P11 word by word.
type wrapSet struct{ set, k, eta, du, dv int }

var wrapSets = []wrapSet{{512, 2, 3, 10, 4}, {768, 3, 2, 10, 4}, {1024, 4, 2, 11, 5}}

var otherSets = []int{0, 1, -1, 2, 3, 4, 44, 65, 87, 256, 511, 513, 767, 769, 1023, 1025, -512, -768, -1024,
	512 + 1<<16, 768 + 1<<32, 1024 + 1<<32, math.MaxInt, math.MinInt}

func sure[T any](a T, err error) T {
	if err != nil {
		panic(err)
	}
	return a
}

func added(f, g api.Poly, sign int) api.Poly {
	for i := range f {
		f[i] = (f[i] + sign*g[i] + api.Small) % api.Small
	}
	return f
}

// sumOfProducts over i below k, of what was transformed.
func sumOfProducts(k int, f, g func(i int) api.Poly) (sum api.Poly) {
	for i := range k {
		sum = added(sum, sure(latticekeys.Product(api.Small, f(i), g(i))), 1)
	}
	return sum
}

func matrixAsTold(rho string, i, j int) (f api.Poly) {
	s := libraryStream(128, rho+string([]byte{byte(j), byte(i)}), 3000)
	n := 0
	for ; n < api.N; s = s[3:] {
		b0, b1, b2 := int(s[0]), int(s[1]), int(s[2])
		for _, a := range []int{b0 + 256*(b1%16), b1/16 + 16*b2} {
			if a < api.Small && n < api.N {
				f[n] = a
				n++
			}
		}
	}
	return f
}

func noiseAsTold(e int, s string, n int) (f api.Poly) {
	drawn := libraryStream(256, s+string([]byte{byte(n)}), 64*e)
	bit := func(i int) int { return int(drawn[i/8] >> (i % 8) & 1) }
	for i := range f {
		for j := range e {
			f[i] += bit(2*i*e+j) - bit(2*i*e+e+j)
		}
		f[i] = (f[i] + api.Small) % api.Small
	}
	return f
}

func forwardNoise(e int, s string, n int) api.Poly {
	return sure(latticekeys.Forward(api.Small, noiseAsTold(e, s, n)))
}

// numbers is polynomial i of those that are packed in d bits, modulo q.
func numbers(d int, s string, i int) api.Poly {
	return added(sure(latticekeys.Unpack(d, s[32*d*i:32*d*(i+1)])), api.Poly{}, 1)
}

func compressedAsTold(d int, f api.Poly) string {
	return packAsTold(d, sure(latticekeys.Compress(d, f)))
}

func (w wrapSet) keyGen(d, z string) (string, string) {
	both := librarySum(512, d+string([]byte{byte(w.k)}))
	rho, sigma := both[:32], both[32:]
	s := func(j int) api.Poly { return forwardNoise(w.eta, sigma, j) }
	var ek, dk string
	for i := range w.k {
		t := sumOfProducts(w.k, func(j int) api.Poly { return matrixAsTold(rho, i, j) }, s)
		ek += packAsTold(12, added(t, forwardNoise(w.eta, sigma, w.k+i), 1))
		dk += packAsTold(12, s(i))
	}
	ek += rho
	return ek, dk + ek + librarySum(256, ek) + z
}

func (w wrapSet) encrypted(ek, m, r string) (c string) {
	rho := ek[384*w.k:]
	y := func(j int) api.Poly { return forwardNoise(w.eta, r, j) }
	for i := range w.k {
		u := sumOfProducts(w.k, func(j int) api.Poly { return matrixAsTold(rho, j, i) }, y)
		c += compressedAsTold(w.du, added(sure(latticekeys.Inverse(api.Small, u)), noiseAsTold(2, r, w.k+i), 1))
	}
	v := sumOfProducts(w.k, func(j int) api.Poly { return numbers(12, ek, j) }, y)
	v = added(sure(latticekeys.Inverse(api.Small, v)), noiseAsTold(2, r, 2*w.k), 1)
	v = added(v, sure(latticekeys.Decompress(1, numbers(1, m, 0))), 1)
	return c + compressedAsTold(w.dv, v)
}

func (w wrapSet) encaps(ek, m string) (string, string) {
	both := librarySum(512, m+librarySum(256, ek))
	return both[:32], w.encrypted(ek, m, both[32:])
}

func (w wrapSet) decaps(dk, c string) string {
	ek, hash, z := dk[384*w.k:768*w.k+32], dk[768*w.k+32:768*w.k+64], dk[768*w.k+64:]
	u := func(i int) api.Poly {
		return sure(latticekeys.Forward(api.Small, sure(latticekeys.Decompress(w.du, sure(latticekeys.Unpack(w.du, c[32*w.du*i:32*w.du*(i+1)]))))))
	}
	v := sure(latticekeys.Decompress(w.dv, sure(latticekeys.Unpack(w.dv, c[32*w.du*w.k:]))))
	less := sumOfProducts(w.k, func(i int) api.Poly { return numbers(12, dk, i) }, u)
	m := compressedAsTold(1, added(v, sure(latticekeys.Inverse(api.Small, less)), -1))
	both := librarySum(512, m+hash)
	if w.encrypted(ek, m, both[32:]) == c {
		return both[:32]
	}
	return libraryStream(256, z+c, 32)
}

func keyGen(t *testing.T, set int, d, z string) (string, string) {
	t.Helper()
	ek, dk, err := latticekeys.KeyGen(set, d, z)
	if err != nil {
		t.Fatalf("P9: KeyGen(%d): %v", set, err)
	}
	return ek, dk
}

func encaps(t *testing.T, set int, ek, m string) (string, string) {
	t.Helper()
	key, c, err := latticekeys.Encaps(set, ek, m)
	if err != nil {
		t.Fatalf("P10: Encaps(%d): %v", set, err)
	}
	return key, c
}

func decaps(t *testing.T, set int, dk, c string) string {
	t.Helper()
	key, err := latticekeys.Decaps(set, dk, c)
	if err != nil {
		t.Fatalf("P11: Decaps(%d): %v", set, err)
	}
	return key
}

// seeds of 32 bytes: the edges, and drawn ones.
func seeds(n int) []string {
	r := rand.New(rand.NewSource(int64(n)))
	l := []string{strings.Repeat("\x00", 32), strings.Repeat("\xff", 32)}
	for range n {
		l = append(l, text(r, 32))
	}
	return l
}

// turned is a text with one byte XORed.
func turned(s string, place int, by byte) string {
	b := []byte(s)
	b[place] ^= by
	return string(b)
}

// numbered is a text whose number of 12 bits at a place is another one.
func numbered(s string, place, a int) string {
	at := place / api.N * 384
	f := sure(latticekeys.Unpack(12, s[at:at+384]))
	f[place%api.N] = a
	return s[:at] + packAsTold(12, f) + s[at+384:]
}

// withKey is a decapsulation key with another encapsulation key in it, and its hash.
func (w wrapSet) withKey(dk, ek string) string {
	return dk[:384*w.k] + ek + librarySum(256, ek) + dk[len(dk)-32:]
}

// aboveQ has q added to each number of 12 bits where there is room, so that it is the same modulo q.
func aboveQ(s string, k int) string {
	out := ""
	for i := range k {
		f := sure(latticekeys.Unpack(12, s[384*i:384*(i+1)]))
		for j, a := range f {
			if a+api.Small < 1<<12 {
				f[j] = a + api.Small
			}
		}
		out += packAsTold(12, f)
	}
	return out + s[384*k:]
}

func TestP9KeysAsTold(t *testing.T) {
	for _, w := range wrapSets {
		l := seeds(8)
		for i, d := range l {
			z := l[(i+1)%len(l)]
			ek, dk := keyGen(t, w.set, d, z)
			wantEk, wantDk := w.keyGen(d, z)
			if ek != wantEk || dk != wantDk {
				t.Errorf("P9: set %d: other keys of the seeds %x and %x", w.set, d, z)
			}
		}
	}
}

func TestP9KeysHangOnBothSeedsAndTheSet(t *testing.T) {
	l := seeds(2)
	for _, w := range wrapSets {
		ek, dk := keyGen(t, w.set, l[0], l[1])
		otherEk, otherDk := keyGen(t, w.set, l[0], l[2])
		if ek != otherEk || dk[:len(dk)-32] != otherDk[:len(dk)-32] || dk[len(dk)-32:] != l[1] || otherDk[len(dk)-32:] != l[2] {
			t.Errorf("P9: set %d: z is not just the end of the decapsulation key", w.set)
		}
		if otherEk, _ = keyGen(t, w.set, l[2], l[1]); ek == otherEk {
			t.Errorf("P9: set %d: two seeds d have one key", w.set)
		}
	}
}

func TestP9Lengths(t *testing.T) {
	for _, c := range []struct{ set, ek, dk, c int }{{512, 800, 1632, 768}, {768, 1184, 2400, 1088}, {1024, 1568, 3168, 1568}} {
		ek, dk := keyGen(t, c.set, seeds(0)[0], seeds(0)[1])
		key, ciphertext := encaps(t, c.set, ek, seeds(0)[0])
		if len(ek) != c.ek || len(dk) != c.dk || len(ciphertext) != c.c || len(key) != 32 {
			t.Errorf("P9, P10: set %d: %d, %d, %d and %d bytes", c.set, len(ek), len(dk), len(ciphertext), len(key))
		}
	}
}

// libraryKey is a key of the library, of any of its sets.
type libraryKey struct {
	ek        []byte
	wrapped   func(m []byte) ([]byte, []byte, error)
	unwrapped func(c []byte) ([]byte, error)
}

func library768(seed string) libraryKey {
	dk := sure(mlkem.NewDecapsulationKey768([]byte(seed)))
	ek := dk.EncapsulationKey()
	return libraryKey{ek.Bytes(), func(m []byte) ([]byte, []byte, error) { return mlkemtest.Encapsulate768(ek, m) }, dk.Decapsulate}
}

func library1024(seed string) libraryKey {
	dk := sure(mlkem.NewDecapsulationKey1024([]byte(seed)))
	ek := dk.EncapsulationKey()
	return libraryKey{ek.Bytes(), func(m []byte) ([]byte, []byte, error) { return mlkemtest.Encapsulate1024(ek, m) }, dk.Decapsulate}
}

func TestP9To11AsTheLibrary(t *testing.T) {
	for set, library := range map[int]func(seed string) libraryKey{768: library768, 1024: library1024} {
		for _, d := range seeds(20) {
			lib := library(d + d)
			ek, dk := keyGen(t, set, d, d)
			if ek != string(lib.ek) {
				t.Fatalf("P9: set %d: another encapsulation key than the library's", set)
			}
			key, c := encaps(t, set, ek, d)
			wantKey, wantC, err := lib.wrapped([]byte(d))
			if err != nil || key != string(wantKey) || c != string(wantC) {
				t.Fatalf("P10: set %d: another key or ciphertext than the library's", set)
			}
			for _, c := range []string{c, turned(c, 0, 1), turned(c, len(c)-1, 128)} {
				if decaps(t, set, dk, c) != string(sure(lib.unwrapped([]byte(c)))) {
					t.Fatalf("P11: set %d: another key than the library's", set)
				}
			}
		}
	}
}

// All that 100 keys make, their seeds and messages and some ciphertexts that are none drawn from a stream of nothing. (Of 10,000 keys instead of 100 the sums begin with 705dcffc, f959d18d and e3bf82b0.)
func TestP9To11KnownSums(t *testing.T) {
	for i, want := range []string{
		"449120c6e320ef3e9fbfa2316e5f2d2e1e6dd37d8ff5d086d5d2db7d42aff0a1",
		"8d65b902f28edc683cebee2872962fd165a4d197c9e24ec74caa4470270df0b7",
		"c3ffe9ebecfa479c142656cbfbc6417efa05b77e994fe538eef4daed166363df",
	} {
		w := wrapSets[i]
		from, all := stream(t, 128), sha3.NewSHAKE128()
		for range 100 {
			ek, dk := keyGen(t, w.set, squeeze(t, from, 32), squeeze(t, from, 32))
			key, c := encaps(t, w.set, ek, squeeze(t, from, 32))
			none := decaps(t, w.set, dk, squeeze(t, from, len(c)))
			if decaps(t, w.set, dk, c) != key {
				t.Fatalf("P11: set %d: another key than Encaps gave", w.set)
			}
			all.Write([]byte(ek + dk + c + key + none))
		}
		got := make([]byte, 32)
		if all.Read(got); hex.EncodeToString(got) != want {
			t.Errorf("P9 to P11: set %d: the sum over all is %x, want %s", w.set, got, want)
		}
	}
}

func TestP10CiphertextsAsTold(t *testing.T) {
	r := rand.New(rand.NewSource(11))
	for _, w := range wrapSets {
		made, _ := w.keyGen(text(r, 32), text(r, 32))
		keys := []string{made, "", "", ""}
		for range w.k {
			keys[1] += packAsTold(12, filled(api.Small-1))
			keys[2] += packAsTold(12, filled(0))
			keys[3] += packAsTold(12, drawn(r, api.Small))
		}
		for i := range keys[1:] {
			keys[i+1] += text(r, 32)
		}
		for _, ek := range keys {
			for _, m := range seeds(2) {
				key, c := encaps(t, w.set, ek, m)
				wantKey, wantC := w.encaps(ek, m)
				if key != wantKey || c != wantC {
					t.Errorf("P10: set %d: another key or ciphertext of the message %x", w.set, m)
				}
			}
		}
	}
}

func TestP10NumbersThatAreTooGreat(t *testing.T) {
	m := seeds(1)[2]
	for _, w := range wrapSets {
		ek, _ := w.keyGen(m, m)
		for place := range api.N * w.k {
			key, c, err := latticekeys.Encaps(w.set, numbered(ek, place, api.Small), m)
			if wantError(t, "P10: a number that is q", err, api.ErrKey); key != "" || c != "" {
				t.Fatal("P1: bytes beside an error")
			}
		}
		for _, place := range []int{0, 1, 255, 256, api.N*w.k - 2, api.N*w.k - 1} {
			for _, a := range []int{3330, 3584, 4094, 4095} {
				_, _, err := latticekeys.Encaps(w.set, numbered(ek, place, a), m)
				wantError(t, "P10: a number above q", err, api.ErrKey)
			}
			below := numbered(ek, place, api.Small-1)
			_, c := encaps(t, w.set, below, m)
			if _, want := w.encaps(below, m); c != want {
				t.Errorf("P10: set %d: another ciphertext with the number 3328 at %d", w.set, place)
			}
		}
		whole := ek[:384*w.k] + strings.Repeat("\xff", 32)
		encaps(t, w.set, whole, m) // rho is no number
	}
}

func TestP11KeysComeBack(t *testing.T) {
	for _, w := range wrapSets {
		for _, d := range seeds(10) {
			ek, dk := keyGen(t, w.set, d, d)
			for _, m := range seeds(3) {
				key, c := encaps(t, w.set, ek, m)
				if decaps(t, w.set, dk, c) != key {
					t.Fatalf("P11: set %d: another key than Encaps gave", w.set)
				}
			}
		}
	}
}

func TestP11CiphertextsThatAreNone(t *testing.T) {
	r := rand.New(rand.NewSource(12))
	for _, w := range wrapSets {
		z := text(r, 32)
		ek, dk := keyGen(t, w.set, text(r, 32), z)
		key, c := encaps(t, w.set, ek, text(r, 32))
		l := []string{strings.Repeat("\x00", len(c)), strings.Repeat("\xff", len(c)), text(r, len(c)), c[1:] + c[:1]}
		for place := 0; place < len(c); place += 31 {
			l = append(l, turned(c, place, 1<<(place%8)))
		}
		l = append(l, turned(c, len(c)-1, 128), turned(c, 320*w.k-1, 1), turned(c, 320*w.k, 1))
		for _, c := range l {
			got := decaps(t, w.set, dk, c)
			if want := libraryStream(256, z+c, 32); got != want || got == key {
				t.Fatalf("P11: set %d: the key of a ciphertext that is none is %x, want %x", w.set, got, want)
			}
		}
	}
}

func TestP11OtherKeysAsTold(t *testing.T) {
	r := rand.New(rand.NewSource(13))
	for _, w := range wrapSets {
		ek, dk := w.keyGen(text(r, 32), text(r, 32))
		otherEk, otherDk := w.keyGen(text(r, 32), text(r, 32))
		keys := []string{
			dk, w.withKey(dk, otherEk), w.withKey(text(r, len(dk)), ek),
			w.withKey(strings.Repeat("\xff", len(dk)), ek), w.withKey(dk, strings.Repeat("\xff", len(ek))),
			w.withKey(dk, text(r, len(ek))), turned(dk, 5, 255), turned(dk, len(dk)-1, 1),
		}
		_, c := w.encaps(ek, text(r, 32))
		_, otherC := w.encaps(otherEk, text(r, 32))
		for _, dk := range append(keys, otherDk) {
			for _, c := range []string{c, otherC, text(r, len(c))} {
				if got, want := decaps(t, w.set, dk, c), w.decaps(dk, c); got != want {
					t.Errorf("P11: set %d: the key is %x, want %x", w.set, got, want)
				}
			}
		}
	}
}

// What Decaps reads counts modulo q: a key comes back even where all numbers that can be are q more.
func TestP11NumbersModuloQ(t *testing.T) {
	for _, w := range wrapSets {
		for _, m := range seeds(3) {
			ek, dk := w.keyGen(m, m)
			high := aboveQ(ek, w.k)
			_, _, err := latticekeys.Encaps(w.set, high, m)
			wantError(t, "P10: numbers above q", err, api.ErrKey)
			for _, dk := range []string{aboveQ(dk, w.k), w.withKey(dk, high), w.withKey(aboveQ(dk, w.k), high)} {
				key, c := w.encaps(dk[384*w.k:768*w.k+32], m)
				if decaps(t, w.set, dk, c) != key {
					t.Errorf("P11: set %d: numbers are not taken modulo q", w.set)
				}
			}
		}
	}
}

func TestP11HashThatIsAnother(t *testing.T) {
	for _, w := range wrapSets {
		ek, dk := w.keyGen(seeds(1)[2], seeds(0)[0])
		_, c := w.encaps(ek, seeds(0)[1])
		from, to := 384*w.k, len(dk)-32 // the encapsulation key, and its hash
		places := []int{from - 1, from, to - 33, to - 32, to - 1, to}
		for place := 0; place < len(dk); place += 23 {
			places = append(places, place)
		}
		for _, place := range places {
			want := api.OK
			if place >= from && place < to {
				want = api.ErrHash
			}
			key, err := latticekeys.Decaps(w.set, turned(dk, place, 1<<(place%8)), c)
			if wantError(t, "P11: a key with a turned byte", err, want); (key == "") != (want != api.OK) {
				t.Fatalf("P1, P11: set %d: byte %d turned: the key is %x", w.set, place, key)
			}
		}
	}
}

func TestP9To11OtherSets(t *testing.T) {
	ek, dk := keyGen(t, 768, seeds(0)[0], seeds(0)[0])
	_, c := encaps(t, 768, ek, seeds(0)[0])
	for _, set := range otherSets {
		for _, s := range [][4]string{{}, {ek, dk, c, seeds(0)[0]}, {ek + "x", dk[1:], c + "x", "x"}} {
			a, b, err := latticekeys.KeyGen(set, s[3], s[3])
			if wantError(t, "P9: another set", err, api.ErrSet); a != "" || b != "" {
				t.Errorf("P1: KeyGen(%d) gives keys beside an error", set)
			}
			a, b, err = latticekeys.Encaps(set, s[0], s[3])
			if wantError(t, "P10: another set", err, api.ErrSet); a != "" || b != "" {
				t.Errorf("P1: Encaps(%d) gives a key beside an error", set)
			}
			a, err = latticekeys.Decaps(set, s[1], s[2])
			if wantError(t, "P11: another set", err, api.ErrSet); a != "" {
				t.Errorf("P1: Decaps(%d) gives a key beside an error", set)
			}
		}
	}
}

// otherLengths of a text: empty, shorter, longer, and as long as other sets have it.
func otherLengths(s string) []string {
	l := []string{"", s[1:], s[:len(s)-1], s + "\x00", s + s}
	for _, n := range []int{31, 33, 64, 768, 800, 1088, 1184, 1568, 1632, 2400, 3168} {
		if n != len(s) {
			l = append(l, strings.Repeat("\xff", n))
		}
	}
	return l
}

// The bytes that are too many or too few are often wrong otherwise, too: ErrLength is named first.
func TestP9To11OtherLengths(t *testing.T) {
	m := seeds(1)[2]
	for _, w := range wrapSets {
		ek, dk := keyGen(t, w.set, m, m)
		_, c := encaps(t, w.set, ek, m)
		badEk, badDk := numbered(ek, 0, 4095), turned(dk, len(dk)-33, 1)
		refused := func(p string, err error, answers ...string) {
			t.Helper()
			if wantError(t, p, err, api.ErrLength); strings.Join(answers, "") != "" {
				t.Errorf("P1: %s: bytes beside an error", p)
			}
		}
		for _, s := range otherLengths(m) {
			for _, l := range [][2]string{{s, m}, {m, s}, {s, s}, {m[1:], m + "x"}, {m + m, ""}} {
				a, b, err := latticekeys.KeyGen(w.set, l[0], l[1])
				refused("P9: KeyGen of other lengths", err, a, b)
			}
			for _, ek := range []string{ek, badEk} {
				a, b, err := latticekeys.Encaps(w.set, ek, s)
				refused("P10: Encaps of another length of m", err, a, b)
			}
		}
		a, b, err := latticekeys.Encaps(w.set, ek[1:], m+"x")
		refused("P10: Encaps of other lengths", err, a, b)
		a, err = latticekeys.Decaps(w.set, dk[1:], c+"x")
		refused("P11: Decaps of other lengths", err, a)
		for _, s := range otherLengths(ek) {
			a, b, err := latticekeys.Encaps(w.set, s, m)
			refused("P10: Encaps of another length of ek", err, a, b)
		}
		for _, s := range otherLengths(dk) {
			a, err := latticekeys.Decaps(w.set, s, c)
			refused("P11: Decaps of another length of dk", err, a)
		}
		for _, s := range otherLengths(c) {
			for _, dk := range []string{dk, badDk} {
				a, err := latticekeys.Decaps(w.set, dk, s)
				refused("P11: Decaps of another length of c", err, a)
			}
		}
	}
}

func TestP2KeysAreNeitherWrittenNorKept(t *testing.T) {
	m := seeds(1)[2]
	for _, w := range wrapSets {
		ek, dk := w.keyGen(m, m)
		key, c := w.encaps(ek, m)
		var mine lent
		gotEk, gotDk := keyGen(t, w.set, mine.text(m), mine.text(m))
		gotKey, gotC := encaps(t, w.set, mine.text(ek), mine.text(m))
		again := decaps(t, w.set, mine.text(dk), mine.text(c))
		none := decaps(t, w.set, mine.text(dk), mine.text(turned(c, 0, 1)))
		mine.takenBack(t)
		if gotEk != ek || gotDk != dk || gotKey != key || gotC != c || again != key || none != w.decaps(dk, turned(c, 0, 1)) {
			t.Errorf("P2: set %d: answers hang on the texts when they are made already", w.set)
		}
	}
}

func TestP2WrappingAtTheSameTime(t *testing.T) {
	var m, ek, dk, key, c [16]string
	for i, s := range seeds(14) {
		w := wrapSets[i%3]
		m[i] = s
		ek[i], dk[i] = w.keyGen(s, s)
		key[i], c[i] = w.encaps(ek[i], s)
	}
	atTheSameTime(t, func(i int) bool {
		set := wrapSets[i%3].set
		gotEk, gotDk, _ := latticekeys.KeyGen(set, m[i], m[i])
		gotKey, gotC, _ := latticekeys.Encaps(set, ek[i], m[i])
		again, _ := latticekeys.Decaps(set, dk[i], c[i])
		return gotEk == ek[i] && gotDk == dk[i] && gotKey == key[i] && gotC == c[i] && again == key[i]
	})
}

func TestP2WrappingLeavesNoGoroutine(t *testing.T) {
	m := seeds(1)[2]
	wantNoGoroutineLeft(t, func(i int) {
		set := wrapSets[i%3].set
		ek, dk := keyGen(t, set, m, m)
		_, c := encaps(t, set, ek, m)
		decaps(t, set, dk, c)
		latticekeys.KeyGen(set, m, "")
		latticekeys.Encaps(set, numbered(ek, 0, 4095), m)
		latticekeys.Decaps(set, turned(dk, len(dk)-33, 1), c)
	})
}
