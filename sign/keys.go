package sign

import (
	"latticekeys/api"
	"latticekeys/lattice"
	"latticekeys/parts"
	"latticekeys/sponge"
	"latticekeys/text"
	"latticekeys/throw"
)

// secretKey is what one is made of.
type secretKey struct {
	*Parameters
	rho    string // the seed of the matrix
	key    string // part of the masks' seeds
	hash   string // of the public key
	s1, s2 vector // the secrets
	t0     vector // the low parts that the public key leaves out
}

// Keys makes a public key and a secret key of a seed. It throws ErrLength.
func (p *Parameters) Keys(xi string) (public, secret string) {
	throw.Unless(len(xi) == seedBytes, api.ErrLength)
	drawn := sponge.H(xi+text.Number(p.K, 1)+text.Number(p.l, 1), 2*seedBytes+hashBytes)
	k := secretKey{Parameters: p}
	k.rho = text.Cut(&drawn, seedBytes)
	seed := text.Cut(&drawn, hashBytes)
	k.key = drawn
	k.s1, k.s2 = p.secrets(seed, 0, p.l), p.secrets(seed, p.l, p.K)
	t := p.times(k.matrix(), k.s1).With(k.s2, p.ring.Sum)
	t1, t0 := parted(t, parts.Halve)
	k.t0 = t0
	public = k.rho + lattice.Pack(publicBits, t1)
	k.hash = sponge.H(public, hashBytes)
	return public, k.packed()
}

func (k secretKey) packed() string {
	return k.rho + k.key + k.hash +
		k.secretRange().packed(k.ring, k.s1) +
		k.secretRange().packed(k.ring, k.s2) +
		lowRange().packed(k.ring, k.t0)
}

// readSecretKey reads a text that is as long as a secret key. It throws ErrKey, if a number of s1 or s2 as packed is above 2 eta: just those come out further from 0 than eta.
func (p *Parameters) readSecretKey(sk string) secretKey {
	k := secretKey{Parameters: p}
	k.rho = text.Cut(&sk, seedBytes)
	k.key = text.Cut(&sk, seedBytes)
	k.hash = text.Cut(&sk, hashBytes)
	k.s1 = p.secretRange().unpacked(p.ring, text.Cut(&sk, p.l*p.secretRange().bytes()))
	k.s2 = p.secretRange().unpacked(p.ring, text.Cut(&sk, p.K*p.secretRange().bytes()))
	k.t0 = lowRange().unpacked(p.ring, sk)
	throw.Unless(reach(k.s1) <= p.eta && reach(k.s2) <= p.eta, api.ErrKey)
	return k
}

func (k secretKey) matrix() *lattice.Matrix[uint32] {
	return lattice.Draw(k.ring, k.rho, k.K, k.l)
}

// times multiplies a matrix by a vector, which is not transformed; nor is what comes out.
func (p *Parameters) times(m *lattice.Matrix[uint32], v vector) vector {
	return m.Times(v.Each(p.ring.Forward)).Each(p.ring.Inverse)
}

// parted has the high and the low parts of all polynomials.
func parted(v vector, part func(f poly) (high, low poly)) (high, low vector) {
	high, low = make(vector, len(v)), make(vector, len(v))
	for i, f := range v {
		high[i], low[i] = part(f)
	}
	return high, low
}
