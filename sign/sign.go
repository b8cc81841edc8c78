package sign

import (
	"strings"

	"latticekeys/api"
	"latticekeys/lattice"
	"latticekeys/sponge"
	"latticekeys/text"
	"latticekeys/throw"
)

// signer is what all tries at one signature share.
type signer struct {
	*Parameters
	matrix     *lattice.Matrix[uint32]
	s1, s2, t0 vector // those of the secret key, transformed
	mu         string // what is signed: a hash of the message and of the public key
	seed       string // of the masks
}

// Sign signs a message, in so many tries. It throws ErrLength, ErrKey, ErrBound, and ErrFuel, if all tries are rejected.
func (p *Parameters) Sign(sk, m, rnd string, fuel int) string {
	throw.Unless(len(sk) == p.secretKeyBytes() && len(rnd) == seedBytes, api.ErrLength)
	secret := p.readSecretKey(sk)
	throw.Unless(fuel >= 0 && fuel <= api.MaxFuel, api.ErrBound)
	s := newSigner(secret, m, rnd)
	for n := range fuel {
		if signature, found := s.signature(n); found {
			return signature
		}
	}
	panic(api.ErrFuel)
}

func newSigner(k secretKey, m, rnd string) *signer {
	mu := sponge.H(k.hash+m, hashBytes)
	return &signer{
		Parameters: k.Parameters,
		matrix:     k.matrix(),
		s1:         k.s1.Each(k.ring.Forward),
		s2:         k.s2.Each(k.ring.Forward),
		t0:         k.t0.Each(k.ring.Forward),
		mu:         mu,
		seed:       sponge.H(k.key+rnd+mu, hashBytes),
	}
}

// signature is what try number n gives; false, if it is rejected: what it gives would tell of the secrets, or could not be verified.
func (s *signer) signature(n int) (string, bool) {
	y := s.mask(n)
	w := s.times(s.matrix, y)
	high, _ := parted(w, s.Decompose)
	c := s.challenge(s.mu, high)
	ball := s.ring.Forward(s.ball(c))
	z := y.With(s.scaled(ball, s.s1), s.ring.Sum)
	r := w.With(s.scaled(ball, s.s2), s.ring.Difference)
	g := s.scaled(ball, s.t0)
	_, low := parted(r, s.Decompose)
	if reach(z) >= s.gamma1-s.beta() || reach(low) >= s.Gamma-s.beta() || reach(g) >= s.Gamma {
		return "", false
	}
	hints, few := s.PackHint(r.With(g, s.hint))
	if !few {
		return "", false
	}
	return c + s.maskRange().packed(s.ring, z) + hints, true
}

// mask is y of try number n.
func (s *signer) mask(n int) vector {
	var drawn strings.Builder
	for j := range s.l {
		drawn.WriteString(sponge.H(s.seed+text.Number(n*s.l+j, 2), s.maskRange().bytes()))
	}
	return s.maskRange().unpacked(s.ring, drawn.String())
}

// challenge is c, of the high parts of w.
func (p *Parameters) challenge(mu string, high vector) string {
	return sponge.H(mu+lattice.Pack(p.highBits(), high), p.challengeBytes)
}

// scaled is a ball times each polynomial, all transformed; what comes out is not.
func (p *Parameters) scaled(ball poly, v vector) vector {
	return v.Each(func(f poly) poly { return p.ring.Inverse(p.ring.Product(ball, f)) })
}

// hint tells who knows only r + g where r has another high part.
func (p *Parameters) hint(r, g poly) poly {
	minus := p.ring.Difference(poly{}, g)
	hints, _ := p.Hint(minus, p.ring.Sum(r, g))
	return hints
}
