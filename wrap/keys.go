package wrap

import (
	"latticekeys/api"
	"latticekeys/lattice"
	"latticekeys/sponge"
	"latticekeys/text"
	"latticekeys/throw"
)

// hash is Sum(256) of a text: an array, so that two are compared as values.
type hash [seedBytes]byte

// encapsulationKey is what one is made of.
type encapsulationKey struct {
	t   vector // transformed; as the key has it, maybe not below q
	rho string
}

// decapsulationKey is what one is made of.
type decapsulationKey struct {
	s    vector // likewise
	ek   string
	hash hash // of ek
	z    string
}

// KeyGen makes an encapsulation key and a decapsulation key of two seeds. It throws ErrLength.
func (s *Scheme) KeyGen(d, z string) (ek, dk string) {
	throw.Unless(len(d) == seedBytes && len(z) == seedBytes, api.ErrLength)
	rho, sigma := twoSeeds(d + text.Number(s.k, 1))
	secret := s.noises(s.eta, sigma, 0).Each(s.ring.Forward)
	noise := s.noises(s.eta, sigma, s.k).Each(s.ring.Forward)
	t := lattice.Draw(s.ring, rho, s.k, s.k).Times(secret).With(noise, s.ring.Sum)
	ek = lattice.Pack(keyBits, t) + rho
	dk = lattice.Pack(keyBits, secret) + ek + sponge.Sum(256, ek) + z
	return ek, dk
}

// twoSeeds are the halves of Sum(512) of a text.
func twoSeeds(from string) (string, string) {
	sum := sponge.Sum(512, from)
	return sum[:seedBytes], sum[seedBytes:]
}

func (s *Scheme) readEncapsulationKey(ek string) encapsulationKey {
	t := text.Cut(&ek, s.vectorBytes())
	return encapsulationKey{t: lattice.Unpack[uint16](keyBits, t), rho: ek}
}

func (s *Scheme) readDecapsulationKey(dk string) decapsulationKey {
	return decapsulationKey{
		s:    lattice.Unpack[uint16](keyBits, text.Cut(&dk, s.vectorBytes())),
		ek:   text.Cut(&dk, s.encapsulationKeyBytes()),
		hash: hash([]byte(text.Cut(&dk, seedBytes))),
		z:    dk,
	}
}
