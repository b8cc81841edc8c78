package latticekeys_test

import (
	"crypto/mldsa"
	"math"
	"math/rand"
	"strconv"
	"strings"
	"testing"
	"unsafe"

	"latticekeys/api"
	"latticekeys/latticekeys"
)

// read takes a signature apart; its hints are read even if they are none, and it is told whether they are some.
func (w signing) read(sig string) (c string, z, hints []api.Poly, some bool) {
	c, sig = sig[:w.challenge], sig[w.challenge:]
	for j := range w.l {
		z = append(z, readAsTold(sig, j, w.gamma1-1, w.gamma1))
	}
	hints, some = w.unpackHint(sig[w.l*32*w.maskBits():])
	return c, z, hints, some
}

// challenged is the hash that P18 holds c against.
func (w signing) challenged(pk, m, c string, z, hints []api.Poly) string {
	hashed := libraryStream(256, libraryStream(256, pk, 64)+m, 64)
	ball := w.ballAsTold(c)
	for i, f := range w.times(pk[:32], z) {
		t1 := sure(latticekeys.Unpack(10, pk[32+320*i:32+320*(i+1)]))
		f = moduloAsTold(combined(f, -1, multiplied(ball, each(t1, func(a int) int { return 8192 * a }))))
		for n, a := range f {
			f[n] = w.useHint(hints[i][n], a)
		}
		hashed += packAsTold(w.highBits(), f)
	}
	return libraryStream(256, hashed, w.challenge)
}

// verifyAsTold is P18.
func (w signing) verifyAsTold(pk, m, sig string) bool {
	if len(pk) != w.public || len(sig) != w.signature {
		return false
	}
	c, z, hints, some := w.read(sig)
	far := 0
	for _, f := range z {
		far = farthest(far, f)
	}
	return some && far < w.gamma1-w.beta() && c == w.challenged(pk, m, c, z, hints)
}

func (w signing) libraryVerify(pk, ctx, m, sig string) bool {
	key, err := mldsa.NewPublicKey(libraryParameters(w.set), []byte(pk))
	return err == nil && mldsa.Verify(key, []byte(m), []byte(sig), &mldsa.Options{Context: ctx}) == nil
}

func (w signing) wantVerify(t *testing.T, what, pk, m, sig string, want bool) {
	t.Helper()
	if is, err := latticekeys.Verify(w.set, pk, m, sig); err != nil || is != want {
		t.Fatalf("P18: set %d: %s: %v, %v, want %v", w.set, what, is, err, want)
	}
}

func (w signing) wantVerifyWith(t *testing.T, what, pk, ctx, m, sig string, want bool) {
	t.Helper()
	if is, err := latticekeys.VerifyWith(w.set, pk, ctx, m, sig); err != nil || is != want {
		t.Fatalf("P19: set %d: %s: %v, %v, want %v", w.set, what, is, err, want)
	}
}

// wantAllAgree: Verify, VerifyWith, the document's words and the library answer alike, of a message in a context.
func (w signing) wantAllAgree(t *testing.T, what, pk, ctx, m, sig string, want bool) {
	t.Helper()
	if w.verifyAsTold(pk, prefixed(ctx, m), sig) != want || w.libraryVerify(pk, ctx, m, sig) != want {
		t.Fatalf("set %d: %s: by the document or by the library it is not %v", w.set, what, want)
	}
	w.wantVerify(t, what, pk, prefixed(ctx, m), sig, want)
	w.wantVerifyWith(t, what, pk, ctx, m, sig, want)
}

func signedWith(t *testing.T, set int, sk, ctx, m, rnd string) string {
	t.Helper()
	s, err := latticekeys.SignWith(set, sk, ctx, m, rnd, api.MaxFuel)
	if err != nil {
		t.Fatalf("P19: SignWith(%d): %v", set, err)
	}
	return s
}

func TestP18SignaturesAreVerified(t *testing.T) {
	r := rand.New(rand.NewSource(40))
	for i, w := range signings {
		for _, xi := range seeds(3) {
			pk, sk := signKeys(t, w.set, xi)
			otherPk, _ := signKeys(t, w.set, turned(xi, 0, 1))
			for _, m := range []string{"", "\x00", text(r, 1+r.Intn(300)), strings.Repeat("long ", 20_000)} {
				sig := signed(t, w.set, sk, m, text(r, 32))
				w.wantVerify(t, "a signature", pk, m, sig, true)
				w.wantVerify(t, "another key", otherPk, m, sig, false)
				w.wantVerify(t, "a longer message", pk, m+"\x00", sig, false)
				w.wantVerify(t, "a message with a nought ahead of it", pk, "\x00"+m, sig, false)
				w.wantVerify(t, "a message with a context", pk, prefixed("", m), sig, false)
				w.wantVerify(t, "another signature", pk, m, signed(t, w.set, sk, m+"x", xi), false)
				signings[(i+1)%3].wantVerify(t, "another set", pk, m, sig, false)
				if m != "" {
					w.wantVerify(t, "another message", pk, turned(m, r.Intn(len(m)), 1<<r.Intn(8)), sig, false)
					w.wantVerify(t, "a shorter message", pk, m[:len(m)-1], sig, false)
					w.wantVerify(t, "no message", pk, "", sig, false)
				}
			}
		}
	}
}

func TestP18To19AsTheLibrary(t *testing.T) {
	r := rand.New(rand.NewSource(41))
	for _, w := range signings {
		for i, xi := range seeds(10) {
			key := sure(mldsa.NewPrivateKey(libraryParameters(w.set), []byte(xi)))
			pk, sk := signKeys(t, w.set, xi)
			m, ctx := text(r, r.Intn(300)), text(r, []int{0, 1, 2, 8, 32, 128, 254, 255}[i%8])
			sig := string(sure(key.SignDeterministic([]byte(m), &mldsa.Options{Context: ctx})))
			if signedWith(t, w.set, sk, ctx, m, seeds(0)[0]) != sig {
				t.Fatalf("P19: set %d: another signature than the library's", w.set)
			}
			w.wantAllAgree(t, "the library's signature", pk, ctx, m, sig, true)
			w.wantAllAgree(t, "a signature", pk, ctx, m, signedWith(t, w.set, sk, ctx, m, xi), true)
			w.wantAllAgree(t, "another byte of a signature", pk, ctx, m, turned(sig, r.Intn(len(sig)), 1<<r.Intn(8)), false)
			w.wantAllAgree(t, "another byte of a key", turned(pk, r.Intn(len(pk)), 1<<r.Intn(8)), ctx, m, sig, false)
			w.wantAllAgree(t, "a drawn key", text(r, w.public), ctx, m, sig, false)
			w.wantAllAgree(t, "a drawn signature", pk, ctx, m, text(r, w.signature), false)
			w.wantAllAgree(t, "drawn but for the hints", pk, ctx, m, text(r, w.signature-w.omega-w.k)+w.hinted("", 0), false)
			w.wantAllAgree(t, "another context", pk, ctx+"x", m, sig, false)
			w.wantAllAgree(t, "another message", pk, ctx, m+"x", sig, false)
		}
	}
}

func TestP18EveryByteCounts(t *testing.T) {
	r := rand.New(rand.NewSource(42))
	for _, w := range signings {
		m := text(r, 50)
		pk, sk := signKeys(t, w.set, text(r, 32))
		sig := signed(t, w.set, sk, m, text(r, 32))
		for place := range sig {
			if place < w.challenge || place >= w.signature-w.omega-w.k || place%5 == 0 {
				w.wantVerify(t, "byte "+strconv.Itoa(place)+" of a signature", pk, m, turned(sig, place, 1<<r.Intn(8)), false)
			}
		}
		for place := range pk {
			if place < 32 || place%5 == 0 {
				w.wantVerify(t, "byte "+strconv.Itoa(place)+" of a key", turned(pk, place, 1<<r.Intn(8)), m, sig, false)
			}
		}
		w.wantVerify(t, "what it was", pk, m, sig, true)
	}
}

// openKey is a public key without high parts: whoever likes can make signatures of it, with any z and hints.
func (w signing) openKey(rho string) string { return rho + strings.Repeat("\x00", w.public-32) }

// open is such a signature; hints that are none are taken as well as they can be read.
func (w signing) open(pk, m string, z []api.Poly, packedHints string) string {
	sig := strings.Repeat("\x00", w.challenge)
	for _, f := range z {
		sig += packedAsTold(f, w.gamma1-1, w.gamma1)
	}
	sig += packedHints
	c, z, hints, _ := w.read(sig)
	return w.challenged(pk, m, c, z, hints) + sig[w.challenge:]
}

// masks is a vector with the same polynomial everywhere.
func (w signing) masks(f api.Poly) (z []api.Poly) {
	for range w.l {
		z = append(z, f)
	}
	return z
}

// Without high parts nothing is multiplied by the ball of c: just its bytes count, all of them.
func TestP18EveryByteOfTheChallengeCounts(t *testing.T) {
	for _, w := range signings {
		pk := w.openKey(seeds(1)[2])
		sig := w.open(pk, "m", w.masks(filled(7)), w.hinted("", 0))
		w.wantVerify(t, "what it was", pk, "m", sig, true)
		for place := range w.challenge {
			w.wantVerify(t, "byte "+strconv.Itoa(place), pk, "m", turned(sig, place, 1), false)
			w.wantVerify(t, "byte "+strconv.Itoa(place), pk, "m", turned(sig, place, 128), false)
		}
	}
}

// A key that is too long is none, even if what is signed is hashed with all of it.
func TestP18LongerKeys(t *testing.T) {
	for _, w := range signings {
		for _, n := range []int{1, 32, 320, 640} {
			pk := w.openKey(seeds(1)[2]) + strings.Repeat("\x00", n)
			sig := w.open(pk, prefixed("", "m"), w.masks(filled(7)), w.hinted("", 0))
			w.wantAllAgree(t, "a longer key", pk, "", "m", sig, false)
		}
	}
}

// No |z| gets to gamma1 - beta, be all else as it must be.
func TestP18GreatestNumbers(t *testing.T) {
	for _, w := range signings {
		pk, m, none := w.openKey(seeds(1)[2]), "a message", w.hinted("", 0)
		limit := w.gamma1 - w.beta()
		wanted := func(what string, z []api.Poly, want bool) {
			t.Helper()
			w.wantAllAgree(t, what, pk, "", m, w.open(pk, prefixed("", m), z, none), want)
		}
		for _, a := range []int{0, 1, -1, limit - 1, 1 - limit} {
			wanted("each number is "+strconv.Itoa(a), w.masks(filled(a)), true)
		}
		for _, a := range []int{limit, -limit, limit + 1, -limit - 1, w.gamma1 - 1, 1 - w.gamma1, w.gamma1} {
			wanted("each number is "+strconv.Itoa(a), w.masks(filled(a)), false)
			for j := range w.l {
				for _, place := range []int{0, 1, 128, 255} {
					z := w.masks(filled(limit - 1))
					z[j][place] = a
					wanted("a number is "+strconv.Itoa(a), z, false)
				}
			}
		}
	}
}

// Hints must be written as P14 writes them, be all else as it must be.
func TestP18HintsThatAreNone(t *testing.T) {
	r := rand.New(rand.NewSource(43))
	for _, w := range signings {
		pk, m := w.openKey(text(r, 32)), text(r, 20)
		drawnMasks := w.masks(each(drawn(r, 2*w.gamma1-2*w.beta()-1), func(a int) int { return a - w.gamma1 + w.beta() + 1 }))
		wanted := func(what string, z []api.Poly, packed string, want bool) {
			t.Helper()
			w.wantAllAgree(t, what, pk, "", m, w.open(pk, prefixed("", m), z, packed), want)
		}
		for _, z := range [][]api.Poly{drawnMasks, w.masks(api.Poly{})} {
			for _, c := range w.hintTexts() {
				wanted(c.what, z, c.s, c.are)
			}
			for _, ones := range []int{0, 1, w.omega - 1, w.omega} {
				packed, _ := w.packHint(w.spread(r, ones))
				wanted(strconv.Itoa(ones)+" hints", z, packed, true)
			}
		}
	}
}

// Of what Sign rejects Verify asks only for small z: where low parts alone are too great, it may still be verified.
func TestP18TriesThatWereRejected(t *testing.T) {
	for i, c := range [][]struct{ m, n int }{{{425, 2}, {35, 1}, {84, 1}, {217, 0}}, {{82, 1}, {2, 0}, {81, 0}, {666, 0}}, {{586, 2}, {92, 0}, {132, 0}, {200, 0}}} {
		w, rnd := signings[i], seeds(0)[0]
		pk, sk := w.keysAsTold(rnd)
		for what, try := range c {
			m := strconv.Itoa(try.m)
			a := w.try(sk, m, rnd, try.n)
			want := what > 0 // all but the first, of which a number of z is too great
			if w.verifyAsTold(pk, m, a.made) != want || (a.signature == "") != (what < 2) {
				t.Fatalf("set %d: message %s, try %d is not at the edge", w.set, m, try.n)
			}
			w.wantVerify(t, "message "+m+", try "+strconv.Itoa(try.n), pk, m, a.made, want)
		}
	}
}

// High parts that are 0 or 1,023 stand for 0 and, modulo q, -1: with t = s2, and s1 and t0 noughts, these have secret keys.
func TestP18HighPartsAtTheirEdges(t *testing.T) {
	r := rand.New(rand.NewSource(44))
	for _, w := range signings {
		for _, one := range []api.Poly{{}, filled(1), at(0, 1), at(255, 1), drawn(r, 2)} {
			rho := text(r, 32)
			high, s2 := packAsTold(10, each(one, func(a int) int { return 1023 * a })), packedAsTold(each(one, func(a int) int { return -a }), w.eta, w.eta)
			pk := rho + strings.Repeat(high, w.k)
			sk := rho + text(r, 32) + libraryStream(256, pk, 64) +
				strings.Repeat(packedAsTold(api.Poly{}, w.eta, w.eta), w.l) + strings.Repeat(s2, w.k) +
				strings.Repeat(packedAsTold(api.Poly{}, 4095, 4096), w.k)
			m, rnd := text(r, 30), text(r, 32)
			w.wantAllAgree(t, "high parts at an edge", pk, "", m, signedWith(t, w.set, sk, "", m, rnd), true)
		}
	}
}

func TestP18To19OtherSets(t *testing.T) {
	xi := seeds(0)[0]
	pk, sk := signKeys(t, 65, xi)
	sig := signed(t, 65, sk, "", xi)
	for _, set := range otherSignSets {
		for _, c := range [][2]string{{"", ""}, {pk, sig}, {pk[1:], sig}, {pk, sig + "x"}} {
			is, err := latticekeys.Verify(set, c[0], "", c[1])
			if wantError(t, "P18: another set", err, api.ErrSet); is {
				t.Errorf("P1: Verify(%d) is true beside an error", set)
			}
		}
		for _, ctx := range []string{"", strings.Repeat("c", 255), strings.Repeat("c", 256), strings.Repeat("c", 1000)} {
			is, err := latticekeys.VerifyWith(set, pk, ctx, "", sig)
			if wantError(t, "P19: another set", err, api.ErrSet); is {
				t.Errorf("P1: VerifyWith(%d) is true beside an error", set)
			}
			for _, fuel := range []int{0, -1, api.MaxFuel, api.MaxFuel + 1} {
				for _, rnd := range []string{"", xi} {
					s, err := latticekeys.SignWith(set, sk, ctx, "", rnd, fuel)
					if wantError(t, "P19: another set", err, api.ErrSet); s != "" {
						t.Errorf("P1: SignWith(%d) gives a signature beside an error", set)
					}
				}
			}
		}
	}
}

func TestP18OtherLengths(t *testing.T) {
	for _, w := range signings {
		pk, sk := signKeys(t, w.set, seeds(0)[1])
		sig := signedWith(t, w.set, sk, "", "m", seeds(0)[1])
		for _, s := range wrongLengths(pk) {
			w.wantAllAgree(t, "another length of pk", s, "", "m", sig, false)
			w.wantVerify(t, "other lengths of both", s, "m", "", false)
		}
		for _, s := range append(wrongLengths(sig), sk, strings.Repeat("\x00", w.signature-1), strings.Repeat("\x00", 2420+3309+4627)) {
			w.wantAllAgree(t, "another length of sig", pk, "", "m", s, false)
		}
		w.wantVerify(t, "other lengths, that together are right", pk+sig[:1], prefixed("", "m"), sig[1:], false)
		w.wantVerify(t, "other lengths, that together are right", pk[:w.public-1], prefixed("", "m"), pk[w.public-1:]+sig, false)
		for _, s := range []string{strings.Repeat("\x00", w.signature), strings.Repeat("\xff", w.signature)} {
			w.wantAllAgree(t, "one byte everywhere", pk, "", "m", s, false)
			w.wantAllAgree(t, "one byte everywhere, in the key too", s[:w.public], "", "m", s, false)
		}
	}
}

// contexts are of lengths up to the greatest that there may be; longContexts are longer.
func contexts(r *rand.Rand) (l []string) {
	for _, n := range []int{0, 1, 2, 127, 128, 254, 255} {
		l = append(l, text(r, n))
	}
	return append(l, "\x00", strings.Repeat("\x00", 255), strings.Repeat("\xff", 255))
}

func longContexts(r *rand.Rand) (l []string) {
	for _, n := range []int{256, 257, 258, 300, 511, 512, 65_536, 65_537} {
		l = append(l, text(r, n))
	}
	return l
}

func TestP19SignedWithAContext(t *testing.T) {
	r := rand.New(rand.NewSource(45))
	for _, w := range signings {
		pk, sk := signKeys(t, w.set, text(r, 32))
		for _, ctx := range contexts(r) {
			m, rnd := text(r, r.Intn(100)), text(r, 32)
			sig := signedWith(t, w.set, sk, ctx, m, rnd)
			if sig != signed(t, w.set, sk, prefixed(ctx, m), rnd) {
				t.Fatalf("P19: set %d: with a context of %d bytes it is not that message's signature", w.set, len(ctx))
			}
			if want, _ := w.signAsTold(sk, prefixed(ctx, m), rnd, api.MaxFuel); sig != want {
				t.Fatalf("P19: set %d: with a context of %d bytes it is another signature", w.set, len(ctx))
			}
			w.wantAllAgree(t, "a context", pk, ctx, m, sig, true)
			w.wantVerifyWith(t, "no context", pk, "", ctx+m, sig, ctx == "")
			w.wantVerifyWith(t, "another context", pk, strings.Repeat("other", 5), m, sig, false)
			w.wantVerifyWith(t, "the message as context", pk, m, ctx, sig, false)
			w.wantVerifyWith(t, "what is signed as message", pk, "", prefixed(ctx, m), sig, false)
			w.wantVerify(t, "no prefix", pk, m, sig, false)
			w.wantVerify(t, "the context alone ahead", pk, ctx+m, sig, false)
			w.wantVerify(t, "another nought ahead", pk, "\x01"+prefixed(ctx, m)[1:], sig, false)
			if ctx != "" {
				last := len(ctx) - 1
				w.wantVerifyWith(t, "a byte from the context to the message", pk, ctx[:last], ctx[last:]+m, sig, false)
				w.wantVerifyWith(t, "another byte of the context", pk, turned(ctx, last, 1), m, sig, false)
			}
			if m != "" {
				w.wantVerifyWith(t, "a byte from the message to the context", pk, ctx+m[:1], m[1:], sig, false)
			}
		}
	}
}

// A context of more than 255 bytes is none, even if its length, in one byte, would stand for what was signed.
func TestP19ContextsThatAreTooLong(t *testing.T) {
	r := rand.New(rand.NewSource(46))
	for _, w := range signings {
		xi, m := text(r, 32), text(r, 20)
		pk, sk := signKeys(t, w.set, xi)
		for _, ctx := range longContexts(r) {
			sig := signed(t, w.set, sk, prefixed(ctx, m), xi)
			w.wantVerify(t, "that message itself", pk, prefixed(ctx, m), sig, true)
			w.wantVerifyWith(t, "a context that is too long", pk, ctx, m, sig, false)
			w.wantVerifyWith(t, "a context that is too long, no signature", pk, ctx, m, "", false)
			w.wantVerifyWith(t, "a context that is too long, no key", "", ctx, m, sig, false)
			s, err := latticekeys.SignWith(w.set, sk, ctx, m, xi, api.MaxFuel)
			if wantError(t, "P19: a context that is too long", err, api.ErrLength); s != "" {
				t.Errorf("P1: set %d: a signature beside an error", w.set)
			}
		}
	}
}

// Where several errors apply, it is the one that is named first: ErrLength, of the context too, then Sign's others.
func TestP19Refused(t *testing.T) {
	rnd := seeds(1)[2]
	for _, w := range signings {
		_, sk := w.keysAsTold(rnd)
		badSk := w.numberedSecret(sk, 7, 2*w.eta+1)
		long := strings.Repeat("c", 256)
		for _, c := range []struct {
			what, sk, ctx, rnd string
			fuel               int
			want               api.Errno
		}{
			{"another length of sk", sk[1:], "", rnd, 1, api.ErrLength},
			{"another length of sk, other fuel", sk + "x", long[1:], rnd, -1, api.ErrLength},
			{"another length of rnd", sk, "ctx", rnd[1:], 1, api.ErrLength},
			{"another length of rnd, another key", badSk, "ctx", rnd + "x", -1, api.ErrLength},
			{"a long context", sk, long, rnd, 0, api.ErrLength},
			{"a long context, another key", badSk, long, rnd, 1, api.ErrLength},
			{"a long context, other fuel", sk, long, rnd, -1, api.ErrLength},
			{"a long context, and all else wrong", "", long, "", math.MinInt, api.ErrLength},
			{"another key", badSk, "ctx", rnd, 1, api.ErrKey},
			{"another key, other fuel", badSk, long[1:], rnd, -1, api.ErrKey},
			{"fuel below 0", sk, "ctx", rnd, -1, api.ErrBound},
			{"too much fuel", sk, "ctx", rnd, api.MaxFuel + 1, api.ErrBound},
			{"no fuel", sk, "ctx", rnd, 0, api.ErrFuel},
			{"no fuel, a context of 255 bytes", sk, long[1:], rnd, 0, api.ErrFuel},
		} {
			s, err := latticekeys.SignWith(w.set, c.sk, c.ctx, "text", c.rnd, c.fuel)
			if wantError(t, "P19: "+c.what, err, c.want); s != "" {
				t.Errorf("P1: %s: bytes beside an error", c.what)
			}
		}
	}
}

// With fuel for just so many tries as it takes there is a signature, with less there is none.
func TestP19Fuel(t *testing.T) {
	r := rand.New(rand.NewSource(47))
	for _, w := range signings {
		for range 3 {
			_, sk := w.keysAsTold(text(r, 32))
			ctx, m, rnd := text(r, 9), text(r, 40), text(r, 32)
			want, tries := w.signAsTold(sk, prefixed(ctx, m), rnd, api.MaxFuel)
			s, err := latticekeys.SignWith(w.set, sk, ctx, m, rnd, tries)
			if wantError(t, "P19: enough fuel", err, api.OK); s != want {
				t.Errorf("P19: set %d: another signature", w.set)
			}
			s, err = latticekeys.SignWith(w.set, sk, ctx, m, rnd, tries-1)
			if wantError(t, "P19: too little fuel", err, api.ErrFuel); s != "" {
				t.Error("P1: bytes beside an error")
			}
		}
	}
}

func TestP2VerifiedTextsAreNeitherWrittenNorKept(t *testing.T) {
	xi, ctx, m := seeds(1)[2], "a context", "a message"
	for _, w := range signings {
		pk, sk := w.keysAsTold(xi)
		sig, _ := w.signAsTold(sk, prefixed(ctx, m), xi, api.MaxFuel)
		var mine lent
		w.wantVerify(t, "texts of a test", mine.text(pk), mine.text(prefixed(ctx, m)), mine.text(sig), true)
		w.wantVerifyWith(t, "texts of a test", mine.text(pk), mine.text(ctx), mine.text(m), mine.text(sig), true)
		got := signedWith(t, w.set, mine.text(sk), mine.text(ctx), mine.text(m), mine.text(xi))
		mine.takenBack(t)
		if got != sig {
			t.Errorf("P2: set %d: a signature hangs on the texts when it is made already", w.set)
		}
		if again := signedWith(t, w.set, sk, ctx, m, xi); again != sig || unsafe.StringData(again) == unsafe.StringData(got) {
			t.Errorf("P2: set %d: two signatures share memory, or are not the same", w.set)
		}
	}
}

func TestP2VerifyingAtTheSameTime(t *testing.T) {
	var xi, pk, sk, sig [16]string
	for i, s := range seeds(14) {
		w := signings[i%3]
		xi[i] = s
		pk[i], sk[i] = w.keysAsTold(s)
		sig[i], _ = w.signAsTold(sk[i], prefixed("ctx", s), s, api.MaxFuel)
	}
	atTheSameTime(t, func(i int) bool {
		set := signings[i%3].set
		got, _ := latticekeys.SignWith(set, sk[i], "ctx", xi[i], xi[i], api.MaxFuel)
		is, _ := latticekeys.Verify(set, pk[i], prefixed("ctx", xi[i]), sig[i])
		isWith, _ := latticekeys.VerifyWith(set, pk[i], "ctx", xi[i], sig[i])
		isOther, _ := latticekeys.VerifyWith(set, pk[i], "ctx", "other", sig[i])
		return got == sig[i] && is && isWith && !isOther
	})
}

func TestP2VerifyingLeavesNoGoroutine(t *testing.T) {
	xi := seeds(1)[2]
	wantNoGoroutineLeft(t, func(i int) {
		w := signings[i%3]
		pk, sk := signKeys(t, w.set, xi)
		sig := signedWith(t, w.set, sk, "ctx", strconv.Itoa(i), xi)
		w.wantVerifyWith(t, "a signature", pk, "ctx", strconv.Itoa(i), sig, true)
		w.wantVerify(t, "a signature of another message", pk, "", sig, false)
		w.wantVerify(t, "no signature", pk, "", "", false)
		w.wantVerify(t, "hints that are none", pk, "", strings.Repeat("\xff", w.signature), false)
		latticekeys.Verify(45, pk, "", sig)
		latticekeys.SignWith(w.set, sk, strings.Repeat("c", 256), "", xi, 1)
	})
}
