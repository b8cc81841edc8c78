package sign

import (
	"latticekeys/lattice"
	"latticekeys/parts"
	"latticekeys/sponge"
	"latticekeys/text"
)

// Verify tells whether it is a signature of a message, by the secret key that belongs to the public one. It throws nothing: a text that can't be a signature, or a key, is none.
func (p *Parameters) Verify(pk, m, signature string) bool {
	if len(pk) != p.publicKeyBytes() || len(signature) != p.signatureBytes() {
		return false
	}
	c := text.Cut(&signature, p.challengeBytes)
	z := p.maskRange().unpacked(p.ring, text.Cut(&signature, p.l*p.maskRange().bytes()))
	hints, written := p.UnpackHint(signature)
	if !written || reach(z) >= p.gamma1-p.beta() {
		return false
	}
	high := vector(hints).With(p.near(pk, c, z), p.UseHint)
	mu := sponge.H(sponge.H(pk, hashBytes)+m, hashBytes)
	return c == p.challenge(mu, high)
}

// near is the signer's r + g, which is w but for the ball times s2 and times t0: by the hints, its high parts are w's.
func (p *Parameters) near(pk, c string, z vector) vector {
	rho := text.Cut(&pk, seedBytes)
	t := lattice.Unpack[uint32](publicBits, pk).Each(parts.Restored)
	ball := p.ring.Forward(p.ball(c))
	ballTimesT := p.scaled(ball, t.Each(p.ring.Forward))
	return p.times(lattice.Draw(p.ring, rho, p.K, p.l), z).With(ballTimesT, p.ring.Difference)
}
