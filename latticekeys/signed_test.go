package latticekeys_test

import (
	"crypto/mldsa"
	"crypto/sha3"
	"encoding/hex"
	"math"
	"math/bits"
	"math/rand"
	"strconv"
	"strings"
	"testing"
	"unsafe"

	"latticekeys/api"
	"latticekeys/latticekeys"
)

// signing is a set as P15 tells it, beside what P12 and P14 say; its methods are P15 to P18 word by word, on coefficients mod± q.
type signing struct {
	signSet
	l, eta, gamma1, tau, challenge int
	public, secret, signature      int // bytes
}

var signings = []signing{
	{signSets[0], 4, 2, 1 << 17, 39, 32, 1312, 2560, 2420},
	{signSets[1], 5, 4, 1 << 19, 49, 48, 1952, 4032, 3309},
	{signSets[2], 7, 2, 1 << 19, 60, 64, 2592, 4896, 4627},
}

func (w signing) beta() int { return w.tau * w.eta }

func (w signing) highBits() int { return map[int]int{44: 6, 65: 4, 87: 4}[w.set] }

func (w signing) maskBits() int { return map[int]int{44: 18, 65: 20, 87: 20}[w.set] }

// smallBytes are those of a packed polynomial of s1 or s2.
func (w signing) smallBytes() int { return 32 * bits.Len(uint(2*w.eta)) }

// each coefficient, by itself.
func each(f api.Poly, made func(a int) int) api.Poly {
	for i, a := range f {
		f[i] = made(a)
	}
	return f
}

func centredAsTold(f api.Poly) api.Poly {
	return each(f, func(a int) int { return modPlusMinus(a, api.Great) })
}

func moduloAsTold(f api.Poly) api.Poly {
	return each(f, func(a int) int { return (a%api.Great + api.Great) % api.Great })
}

// combined is f and so many times g.
func combined(f api.Poly, times int, g api.Poly) api.Poly {
	for i := range f {
		f[i] = modPlusMinus(f[i]+times*g[i], api.Great)
	}
	return f
}

func packedAsTold(f api.Poly, a, b int) string {
	return packAsTold(bits.Len(uint(a+b)), each(centredAsTold(f), func(x int) int { return b - x }))
}

// readAsTold is polynomial i of those that are packed so.
func readAsTold(s string, i, a, b int) api.Poly {
	d := bits.Len(uint(a + b))
	return each(sure(latticekeys.Unpack(d, s[32*d*i:32*d*(i+1)])), func(x int) int { return b - x })
}

// greatMatrix is P15's MATRIX(rho, r, s).
func greatMatrix(rho string, r, s int) (f api.Poly) {
	drawn := libraryStream(128, rho+string([]byte{byte(s), byte(r)}), 3000)
	for i := 0; i < api.N; drawn = drawn[3:] {
		if a := int(drawn[0]) + 256*int(drawn[1]) + 65_536*(int(drawn[2])%128); a < api.Great {
			f[i] = a
			i++
		}
	}
	return f
}

// times the matrix of a seed, of vectors as they are.
func (w signing) times(rho string, v []api.Poly) []api.Poly {
	out := make([]api.Poly, w.k)
	for i := range out {
		var sum api.Poly
		for j, f := range v {
			forward := sure(latticekeys.Forward(api.Great, moduloAsTold(f)))
			sum = combined(sum, 1, sure(latticekeys.Product(api.Great, greatMatrix(rho, i, j), forward)))
		}
		out[i] = centredAsTold(sure(latticekeys.Inverse(api.Great, moduloAsTold(sum))))
	}
	return out
}

func (w signing) secretAsTold(seed string, n int) (f api.Poly) {
	drawn := libraryStream(256, seed+string([]byte{byte(n % 256), byte(n / 256)}), 1000)
	for i, half := 0, 0; i < api.N; half++ {
		h := int(drawn[half/2]) % 16
		if half%2 == 1 {
			h = int(drawn[half/2]) / 16
		}
		switch {
		case w.eta == 2 && h < 15:
			f[i] = 2 - h%5
			i++
		case w.eta == 4 && h < 9:
			f[i] = 4 - h
			i++
		}
	}
	return f
}

func (w signing) keysAsTold(xi string) (pk, sk string) {
	drawn := libraryStream(256, xi+string([]byte{byte(w.k), byte(w.l)}), 128)
	rho, seed, key := drawn[:32], drawn[32:96], drawn[96:]
	s1 := make([]api.Poly, w.l)
	small, low := "", ""
	for j := range s1 {
		s1[j] = w.secretAsTold(seed, j)
		small += packedAsTold(s1[j], w.eta, w.eta)
	}
	pk = rho
	for i, t := range w.times(rho, s1) {
		s2 := w.secretAsTold(seed, w.l+i)
		small += packedAsTold(s2, w.eta, w.eta)
		t1, t0, _ := latticekeys.Halve(moduloAsTold(combined(t, 1, s2)))
		pk += packAsTold(10, t1)
		low += packedAsTold(t0, 4095, 4096)
	}
	return pk, rho + key + libraryStream(256, pk, 64) + small + low
}

func (w signing) ballAsTold(c string) (f api.Poly) {
	drawn := libraryStream(256, c, 2000)
	signs := drawn[:8]
	next := 8
	for i := 256 - w.tau; i <= 255; i++ {
		for int(drawn[next]) > i {
			next++
		}
		j, bit := int(drawn[next]), i-256+w.tau
		next++
		f[i] = f[j]
		f[j] = 1
		if signs[bit/8]>>(bit%8)&1 == 1 {
			f[j] = -1
		}
	}
	return f
}

// multiplied is the product of two polynomials, by no transform.
func multiplied(f, g api.Poly) (h api.Poly) {
	for i, a := range f {
		if a == 0 {
			continue
		}
		for j, b := range g {
			if i+j < api.N {
				h[i+j] += a * b
			} else {
				h[i+j-api.N] -= a * b
			}
		}
	}
	return centredAsTold(h)
}

// attempt is what a try comes to: the greatest |z|, |low| and |g|, how many hints are 1; what is made, if its hints can be packed; and the signature, if it is not rejected.
type attempt struct {
	z, low, g, ones int
	made, signature string
}

func farthest(far int, f api.Poly) int {
	for _, a := range f {
		far = max(far, a, -a)
	}
	return far
}

// try is try number n at a signature.
func (w signing) try(sk, m, rnd string, n int) (a attempt) {
	rho, key, tr := sk[:32], sk[32:64], sk[64:128]
	s1 := sk[128:]
	s2 := s1[w.l*w.smallBytes():]
	t0 := s2[w.k*w.smallBytes():]
	mu := libraryStream(256, tr+m, 64)
	seed := libraryStream(256, key+rnd+mu, 64)
	y := make([]api.Poly, w.l)
	for j := range y {
		number := n*w.l + j
		drawn := libraryStream(256, seed+string([]byte{byte(number % 256), byte(number / 256)}), 32*w.maskBits())
		y[j] = readAsTold(drawn, 0, w.gamma1-1, w.gamma1)
	}
	all := mu
	product := w.times(rho, y)
	for _, f := range product {
		high, _, _ := latticekeys.Decompose(w.set, moduloAsTold(f))
		all += packAsTold(w.highBits(), high)
	}
	c := libraryStream(256, all, w.challenge)
	ball := w.ballAsTold(c)
	signature := c
	for j := range y {
		z := combined(y[j], 1, multiplied(ball, readAsTold(s1, j, w.eta, w.eta)))
		a.z = farthest(a.z, z)
		signature += packedAsTold(z, w.gamma1-1, w.gamma1)
	}
	hints := make([]api.Poly, w.k)
	for i, f := range product {
		r := combined(f, -1, multiplied(ball, readAsTold(s2, i, w.eta, w.eta)))
		g := multiplied(ball, readAsTold(t0, i, 4095, 4096))
		_, low, _ := latticekeys.Decompose(w.set, moduloAsTold(r))
		a.low, a.g = farthest(a.low, low), farthest(a.g, g)
		h, ones, _ := latticekeys.Hint(w.set, moduloAsTold(combined(api.Poly{}, -1, g)), moduloAsTold(combined(r, 1, g)))
		hints[i] = h
		a.ones += ones
	}
	if a.ones > w.omega {
		return a
	}
	a.made = signature + sure(latticekeys.PackHint(w.set, hints))
	if a.z < w.gamma1-w.beta() && a.low < w.gamma-w.beta() && a.g < w.gamma {
		a.signature = a.made
	}
	return a
}

// signAsTold is the signature, and in how many tries; none, if there is none.
func (w signing) signAsTold(sk, m, rnd string, fuel int) (string, int) {
	for n := range fuel {
		if a := w.try(sk, m, rnd, n); a.signature != "" {
			return a.signature, n + 1
		}
	}
	return "", fuel
}

func signKeys(t *testing.T, set int, xi string) (string, string) {
	t.Helper()
	pk, sk, err := latticekeys.SignKeys(set, xi)
	if err != nil {
		t.Fatalf("P16: SignKeys(%d): %v", set, err)
	}
	return pk, sk
}

func signed(t *testing.T, set int, sk, m, rnd string) string {
	t.Helper()
	s, err := latticekeys.Sign(set, sk, m, rnd, api.MaxFuel)
	if err != nil {
		t.Fatalf("P17: Sign(%d): %v", set, err)
	}
	return s
}

// wantSigned holds Sign against the document's words.
func (w signing) wantSigned(t *testing.T, what, sk, m, rnd string, fuel int) {
	t.Helper()
	want, _ := w.signAsTold(sk, m, rnd, fuel)
	wrong := api.OK
	if want == "" {
		wrong = api.ErrFuel
	}
	s, err := latticekeys.Sign(w.set, sk, m, rnd, fuel)
	if wantError(t, "P17: "+what, err, wrong); s != want {
		t.Errorf("P17: set %d: %s: %d bytes that are not the signature", w.set, what, len(s))
	}
}

func TestP16KeysAsTold(t *testing.T) {
	for _, w := range signings {
		for _, xi := range seeds(8) {
			pk, sk := signKeys(t, w.set, xi)
			wantPk, wantSk := w.keysAsTold(xi)
			if pk != wantPk || sk != wantSk {
				t.Errorf("P16: set %d: other keys of the seed %x", w.set, xi)
			}
		}
	}
}

func TestP15To17Lengths(t *testing.T) {
	for _, w := range signings {
		pk, sk := signKeys(t, w.set, seeds(0)[1])
		s := signed(t, w.set, sk, "", seeds(0)[0])
		if len(pk) != w.public || len(sk) != w.secret || len(s) != w.signature {
			t.Errorf("P16, P17: set %d: %d, %d and %d bytes", w.set, len(pk), len(sk), len(s))
		}
	}
}

func libraryParameters(set int) mldsa.Parameters {
	return map[int]mldsa.Parameters{44: mldsa.MLDSA44(), 65: mldsa.MLDSA65(), 87: mldsa.MLDSA87()}[set]
}

// prefixed is the message that the library signs in a context.
func prefixed(ctx, m string) string { return string([]byte{0, byte(len(ctx))}) + ctx + m }

func TestP16To17AsTheLibrary(t *testing.T) {
	r := rand.New(rand.NewSource(30))
	for _, w := range signings {
		for _, xi := range seeds(20) {
			key := sure(mldsa.NewPrivateKey(libraryParameters(w.set), []byte(xi)))
			pk, sk := signKeys(t, w.set, xi)
			if pk != string(key.PublicKey().Bytes()) {
				t.Fatalf("P16: set %d: another public key than the library's", w.set)
			}
			m, options := text(r, r.Intn(500)), &mldsa.Options{Context: text(r, r.Intn(256))}
			want := sure(key.SignDeterministic([]byte(m), options))
			if signed(t, w.set, sk, prefixed(options.Context, m), seeds(0)[0]) != string(want) {
				t.Fatalf("P17: set %d: another signature than the library's", w.set)
			}
			s := signed(t, w.set, sk, prefixed(options.Context, m), xi)
			if err := mldsa.Verify(key.PublicKey(), []byte(m), []byte(s), options); err != nil {
				t.Fatalf("P17: set %d: the library does not verify a signature: %v", w.set, err)
			}
		}
	}
}

// All that 100 keys make, their seeds drawn from a stream of nothing, of an empty message in an empty context. (Of 10,000 keys instead of 100 the sums begin with e7fd21f6, 5ff5e196 and 80a8cf39.)
func TestP16To17KnownSums(t *testing.T) {
	for i, want := range []string{
		"d51148e1f9f4fa1a723a6cf42e25f2a99eb5c1b378b3d2dbbd561b1203beeae4",
		"8358a1843220194417cadbc2651295cd8fc65125b5a5c1a239a16dc8b57ca199",
		"8c3ad714777622b8f21ce31bb35f71394f23bc0fcf3c78ace5d608990f3b061b",
	} {
		w := signings[i]
		from, all := stream(t, 128), sha3.NewSHAKE128()
		for range 100 {
			pk, sk := signKeys(t, w.set, squeeze(t, from, 32))
			all.Write([]byte(pk + signed(t, w.set, sk, prefixed("", ""), seeds(0)[0])))
		}
		got := make([]byte, 32)
		if all.Read(got); hex.EncodeToString(got) != want {
			t.Errorf("P16, P17: set %d: the sum over all is %x, want %s", w.set, got, want)
		}
	}
}

func TestP17SignaturesAsTold(t *testing.T) {
	r := rand.New(rand.NewSource(31))
	for _, w := range signings {
		for _, rnd := range seeds(3) {
			_, sk := w.keysAsTold(text(r, 32))
			for _, m := range []string{"", "\x00", text(r, 1+r.Intn(300)), strings.Repeat("long ", 20_000)} {
				w.wantSigned(t, "a message", sk, m, rnd, api.MaxFuel)
			}
		}
	}
}

func TestP17SignaturesHangOnAllThatIsSigned(t *testing.T) {
	r := rand.New(rand.NewSource(32))
	for _, w := range signings {
		xi, m, rnd := text(r, 32), text(r, 100), text(r, 32)
		_, sk := signKeys(t, w.set, xi)
		_, otherSk := signKeys(t, w.set, turned(xi, 31, 128))
		s := signed(t, w.set, sk, m, rnd)
		for _, other := range []string{
			signed(t, w.set, otherSk, m, rnd), signed(t, w.set, sk, turned(m, 99, 1), rnd), signed(t, w.set, sk, m+"\x00", rnd),
			signed(t, w.set, sk, m[1:], rnd), signed(t, w.set, sk, m, turned(rnd, 31, 128)), signed(t, w.set, sk, m, turned(rnd, 0, 1)),
		} {
			if s == other {
				t.Errorf("P17: set %d: two that are not the same have one signature", w.set)
			}
		}
	}
}

// The first try that is not rejected counts, be there fuel for more or not; with less there is none.
func TestP17Fuel(t *testing.T) {
	r := rand.New(rand.NewSource(33))
	for _, w := range signings {
		most := 0
		for range 8 {
			m, rnd := text(r, 40), text(r, 32)
			_, sk := w.keysAsTold(text(r, 32))
			want, tries := w.signAsTold(sk, m, rnd, api.MaxFuel)
			most = max(most, tries)
			for _, fuel := range []int{tries, tries + 1, api.MaxFuel - 1, api.MaxFuel} {
				s, err := latticekeys.Sign(w.set, sk, m, rnd, fuel)
				if wantError(t, "P17: enough fuel", err, api.OK); s != want {
					t.Fatalf("P17: set %d: with fuel %d another signature", w.set, fuel)
				}
			}
			for fuel := range tries {
				s, err := latticekeys.Sign(w.set, sk, m, rnd, fuel)
				if wantError(t, "P17: too little fuel", err, api.ErrFuel); s != "" {
					t.Fatal("P1: bytes beside an error")
				}
			}
		}
		if most < 3 {
			t.Errorf("P17: set %d: no message took more than %d tries", w.set, most)
		}
	}
}

// Low parts that are all as far from 0 as they can be have nearly every try rejected, for too many hints. Late tries are numbered in two bytes.
func TestP17LateTries(t *testing.T) {
	rnd := seeds(0)[0]
	for i, c := range []struct{ m, n int }{{3821, api.MaxFuel - 1}, {1721, 626}, {2184, api.MaxFuel - 1}} {
		w, m := signings[i], strconv.Itoa(c.m)
		_, sk := w.keysAsTold(rnd)
		sk = sk[:w.secret-32*13*w.k]
		signs := libraryStream(256, "low parts", 32*w.k)
		for i := range w.k {
			f := sure(latticekeys.Unpack(1, signs[32*i:32*(i+1)]))
			sk += packedAsTold(each(f, func(a int) int { return []int{4096, -4095}[a] }), 4095, 4096)
		}
		want := w.try(sk, m, rnd, c.n).signature
		s, err := latticekeys.Sign(w.set, sk, m, rnd, c.n+1)
		if wantError(t, "P17: a late try", err, api.OK); s != want {
			t.Errorf("P17: set %d: another signature of try %d", w.set, c.n)
		}
		s, err = latticekeys.Sign(w.set, sk, m, rnd, c.n)
		if wantError(t, "P17: all fuel is spent", err, api.ErrFuel); s != "" {
			t.Error("P1: bytes beside an error")
		}
	}
}

// Tries at a signature of a number, by the keys of a seed of noughts, in which one thing is just small enough, or just too great, and all else is fine.
func TestP17RejectedAtTheEdges(t *testing.T) {
	const z, low, ones = 0, 1, 2
	for _, c := range []struct{ set, m, n, what, above int }{
		{44, 217, 0, z, -1}, {44, 425, 2, z, 0}, {44, 245, 0, low, -1}, {44, 35, 1, low, 0}, {44, 84, 1, ones, 0}, {44, 1371, 1, ones, 1},
		{65, 666, 0, z, -1}, {65, 82, 1, z, 0}, {65, 323, 2, low, -1}, {65, 2, 0, low, 0}, {65, 81, 0, ones, 0}, {65, 3501, 2, ones, 1},
		{87, 200, 0, z, -1}, {87, 586, 2, z, 0}, {87, 26, 2, low, -1}, {87, 92, 0, low, 0}, {87, 132, 0, ones, 0}, {87, 366, 0, ones, 1},
	} {
		w := signings[map[int]int{44: 0, 65: 1, 87: 2}[c.set]]
		m, rnd := strconv.Itoa(c.m), seeds(0)[0]
		_, sk := w.keysAsTold(seeds(0)[0])
		a := w.try(sk, m, rnd, c.n)
		above := [3]int{a.z - (w.gamma1 - w.beta()), a.low - (w.gamma - w.beta()), a.ones - w.omega}
		fine := [3]bool{above[z] < 0, above[low] < 0, above[ones] <= 0}
		if fine[c.what] = true; above[c.what] != c.above || fine != [3]bool{true, true, true} || a.g >= w.gamma {
			t.Fatalf("set %d, message %d, try %d is not at the edge: %v", c.set, c.m, c.n, above)
		}
		w.wantSigned(t, "a try at an edge", sk, m, rnd, c.n+1)
	}
}

// lowParts makes low parts of a secret key of which a ball's product has a number at place 255: as many numbers as the ball has that are not 0 share it.
func (w signing) lowParts(ball api.Poly, number int) (f api.Poly) {
	left := w.tau
	for i, sign := range ball {
		if sign != 0 {
			share := number / left
			number -= share
			left--
			f[api.N-1-i] = sign * share
		}
	}
	return f
}

// What is multiplied by t0 is rejected from GAMMA on. By the sets 65 and 87 it never gets there: tau times 4,096 is less.
func TestP17RejectedForLowParts(t *testing.T) {
	w, rnd := signings[0], seeds(0)[0]
	_, sk := w.keysAsTold(rnd)
	withLow := func(i int, f api.Poly) string {
		out := sk[:w.secret-32*13*w.k]
		for j := range w.k {
			if j == i {
				out += packedAsTold(f, 4095, 4096)
			} else {
				out += packedAsTold(api.Poly{}, 4095, 4096)
			}
		}
		return out
	}
	first, tries := w.signAsTold(withLow(0, api.Poly{}), "", rnd, api.MaxFuel)
	ball := w.ballAsTold(first[:w.challenge])
	for i := range w.k {
		for _, number := range []int{w.gamma - 1, w.gamma, w.gamma + 1, 1 - w.gamma, -w.gamma, -1 - w.gamma} {
			sk := withLow(i, w.lowParts(ball, number))
			a := w.try(sk, "", rnd, tries-1)
			if a.g != max(number, -number) || a.ones > w.omega || (a.signature == "") != (a.g >= w.gamma) {
				t.Fatalf("t0 is not at the edge: %d, want %d", a.g, number)
			}
			w.wantSigned(t, "low parts at the edge", sk, "", rnd, tries)
		}
	}
}

// Sign takes what a secret key has as it is: the hash and the low parts need not be those that belong to it.
func TestP17OtherSecretKeysAsTold(t *testing.T) {
	r := rand.New(rand.NewSource(34))
	for _, w := range signings {
		_, sk := w.keysAsTold(text(r, 32))
		small := (w.l + w.k) * w.smallBytes()
		keys := []string{sk[:128+small] + text(r, w.secret-128-small), text(r, 128) + sk[128:]}
		for _, place := range []int{0, 31, 32, 63, 64, 127, 128 + small, w.secret - 1} {
			keys = append(keys, turned(sk, place, 255))
		}
		for _, byte := range []string{"\x00", "\xff"} {
			keys = append(keys, sk[:128+small]+strings.Repeat(byte, w.secret-128-small), strings.Repeat(byte, 128)+sk[128:])
		}
		for _, a := range []int{-w.eta, w.eta} {
			all := strings.Repeat(packedAsTold(filled(a), w.eta, w.eta), w.l+w.k)
			keys = append(keys, sk[:128]+all+sk[128+small:])
		}
		for _, sk := range keys {
			w.wantSigned(t, "another secret key", sk, text(r, 10), text(r, 32), 12)
		}
	}
}

// numberedSecret has another number at a place of s1 and s2.
func (w signing) numberedSecret(sk string, place, a int) string {
	d := bits.Len(uint(2 * w.eta))
	at := 128 + place/api.N*32*d
	f := sure(latticekeys.Unpack(d, sk[at:at+32*d]))
	f[place%api.N] = a
	return sk[:at] + packAsTold(d, f) + sk[at+32*d:]
}

func TestP17SecretsThatAreTooGreat(t *testing.T) {
	rnd := seeds(0)[0]
	refused := func(sk string, w signing, want api.Errno) {
		t.Helper()
		s, err := latticekeys.Sign(w.set, sk, "", rnd, 0)
		if wantError(t, "P17: a number of a secret", err, want); s != "" {
			t.Fatal("P1: bytes beside an error")
		}
	}
	for _, w := range signings {
		_, sk := w.keysAsTold(rnd)
		places := api.N * (w.l + w.k)
		for place := range places {
			refused(w.numberedSecret(sk, place, 2*w.eta+1), w, api.ErrKey)
		}
		for _, place := range []int{0, 1, 255, 256, api.N*w.l - 1, api.N * w.l, places - 1} {
			for a := range 1 << bits.Len(uint(2*w.eta)) {
				want := api.ErrFuel
				if a > 2*w.eta {
					want = api.ErrKey
				}
				refused(w.numberedSecret(sk, place, a), w, want)
			}
		}
		for _, place := range []int{0, 127, w.secret - 32*13*w.k, w.secret - 1} {
			refused(turned(sk, place, 255), w, api.ErrFuel) // neither seeds nor low parts are ever too great
		}
	}
}

func TestP16To17OtherSets(t *testing.T) {
	pk, sk := signKeys(t, 65, seeds(0)[0])
	for _, set := range otherSignSets {
		for _, s := range []string{"", "x", seeds(0)[0], pk, sk, sk[1:]} {
			a, b, err := latticekeys.SignKeys(set, s)
			if wantError(t, "P16: another set", err, api.ErrSet); a != "" || b != "" {
				t.Errorf("P1: SignKeys(%d) gives keys beside an error", set)
			}
			for _, fuel := range []int{0, 1, -1, api.MaxFuel + 1, math.MaxInt, math.MinInt} {
				for _, rnd := range []string{"", seeds(0)[0]} {
					a, err := latticekeys.Sign(set, s, "", rnd, fuel)
					if wantError(t, "P17: another set", err, api.ErrSet); a != "" {
						t.Errorf("P1: Sign(%d) gives a signature beside an error", set)
					}
				}
			}
		}
	}
}

// wrongLengths of a text: empty, shorter, longer, and as long as other sets have it.
func wrongLengths(s string) []string {
	l := []string{"", s[1:], s[:len(s)-1], s + "\x00", s + s}
	for _, n := range []int{1, 31, 32, 33, 64, 128, 1312, 1952, 2560, 2592, 4032, 4896} {
		if n != len(s) {
			l = append(l, strings.Repeat("\xff", n))
		}
	}
	return l
}

func TestP16OtherLengths(t *testing.T) {
	for _, w := range signings {
		for _, xi := range wrongLengths(seeds(1)[2]) {
			pk, sk, err := latticekeys.SignKeys(w.set, xi)
			if wantError(t, "P16: another length of xi", err, api.ErrLength); pk != "" || sk != "" {
				t.Errorf("P1: set %d: keys beside an error", w.set)
			}
		}
	}
}

// Where several errors apply, it is the one that is named first: ErrLength, ErrKey, ErrBound, ErrFuel.
func TestP17Refused(t *testing.T) {
	rnd := seeds(1)[2]
	otherFuel := []int{-1, -1000, api.MaxFuel + 1, 1 << 32, 1<<32 + 1, math.MaxInt, math.MinInt}
	for _, w := range signings {
		_, sk := w.keysAsTold(rnd)
		badSk := w.numberedSecret(sk, 7, 2*w.eta+1)
		refused := func(what, sk, rnd string, fuel int, want api.Errno) {
			t.Helper()
			s, err := latticekeys.Sign(w.set, sk, "text", rnd, fuel)
			if wantError(t, "P17: "+what, err, want); s != "" {
				t.Errorf("P1: %s: bytes beside an error", what)
			}
		}
		for _, fuel := range append(otherFuel, 0, 1, api.MaxFuel) {
			for _, s := range wrongLengths(sk) {
				refused("another length of sk", s, rnd, fuel, api.ErrLength)
			}
			for _, s := range wrongLengths(rnd) {
				refused("another length of rnd", sk, s, fuel, api.ErrLength)
				refused("another length of rnd, another key", badSk, s, fuel, api.ErrLength)
			}
			refused("other lengths, that together are right", sk+rnd[:1], rnd[1:], fuel, api.ErrLength)
			refused("another key", badSk, rnd, fuel, api.ErrKey)
		}
		for _, fuel := range otherFuel {
			refused("other fuel", sk, rnd, fuel, api.ErrBound)
		}
		refused("no fuel", sk, rnd, 0, api.ErrFuel)
	}
}

func TestP2SignedTextsAreNeitherWrittenNorKept(t *testing.T) {
	xi, m := seeds(1)[2], "a message"
	for _, w := range signings {
		pk, sk := w.keysAsTold(xi)
		want, _ := w.signAsTold(sk, m, xi, api.MaxFuel)
		var mine lent
		gotPk, gotSk := signKeys(t, w.set, mine.text(xi))
		got := signed(t, w.set, mine.text(sk), mine.text(m), mine.text(xi))
		mine.takenBack(t)
		if gotPk != pk || gotSk != sk || got != want {
			t.Errorf("P2: set %d: answers hang on the texts when they are made already", w.set)
		}
		if again := signed(t, w.set, sk, m, xi); again != want || unsafe.StringData(again) == unsafe.StringData(got) {
			t.Errorf("P2: set %d: two signatures share memory, or are not the same", w.set)
		}
	}
}

func TestP2SigningAtTheSameTime(t *testing.T) {
	var xi, pk, sk, want [16]string
	for i, s := range seeds(14) {
		w := signings[i%3]
		xi[i] = s
		pk[i], sk[i] = w.keysAsTold(s)
		want[i], _ = w.signAsTold(sk[i], s, s, api.MaxFuel)
	}
	atTheSameTime(t, func(i int) bool {
		set := signings[i%3].set
		gotPk, gotSk, _ := latticekeys.SignKeys(set, xi[i])
		got, _ := latticekeys.Sign(set, sk[i], xi[i], xi[i], api.MaxFuel)
		return gotPk == pk[i] && gotSk == sk[i] && got == want[i]
	})
}

func TestP2SigningLeavesNoGoroutine(t *testing.T) {
	xi := seeds(1)[2]
	wantNoGoroutineLeft(t, func(i int) {
		w := signings[i%3]
		_, sk := signKeys(t, w.set, xi)
		signed(t, w.set, sk, strconv.Itoa(i), xi)
		latticekeys.SignKeys(w.set, "")
		latticekeys.Sign(w.set, sk, "", xi, 0)
		latticekeys.Sign(w.set, sk, "", xi, -1)
		latticekeys.Sign(w.set, strings.Repeat("\xff", len(sk)), "", xi, 1)
	})
}
