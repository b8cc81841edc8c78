package wrap

import (
	"latticekeys/api"
	"latticekeys/lattice"
	"latticekeys/sponge"
)

// hash is Sum(256) of a text: an array, so that two are compared as values.
type hash [seedBytes]byte

// encapsulationKey is what one is made of.
type encapsulationKey struct {
	t   vector // transformed; as the key has it, maybe not below q
	rho string
}

// decapsulationKey is what one is made of.
type decapsulationKey struct {
	s    vector // likewise
	ek   string
	hash hash // of ek
	z    string
}

// KeyGen makes an encapsulation key and a decapsulation key of two seeds. It throws ErrLength.
func (s *Scheme) KeyGen(d, z string) (ek, dk string) {
	demand(len(d) == seedBytes && len(z) == seedBytes, api.ErrLength)
	rho, sigma := twoSeeds(d + octet(s.k))
	secret := s.noises(s.eta, sigma, 0).Each(s.ring.Forward)
	noise := s.noises(s.eta, sigma, s.k).Each(s.ring.Forward)
	t := lattice.Sum(s.ring, lattice.Draw(s.ring, rho, s.k, s.k).Times(secret), noise)
	ek = lattice.Pack(keyBits, t) + rho
	dk = lattice.Pack(keyBits, secret) + ek + sponge.Sum(256, ek) + z
	return ek, dk
}

// twoSeeds are the halves of Sum(512) of a text.
func twoSeeds(text string) (string, string) {
	sum := sponge.Sum(512, text)
	return sum[:seedBytes], sum[seedBytes:]
}

func (s *Scheme) readEncapsulationKey(ek string) encapsulationKey {
	t := cut(&ek, s.vectorBytes())
	return encapsulationKey{t: lattice.Unpack[uint16](keyBits, t), rho: ek}
}

func (s *Scheme) readDecapsulationKey(dk string) decapsulationKey {
	return decapsulationKey{
		s:    lattice.Unpack[uint16](keyBits, cut(&dk, s.vectorBytes())),
		ek:   cut(&dk, s.encapsulationKeyBytes()),
		hash: hash([]byte(cut(&dk, seedBytes))),
		z:    dk,
	}
}

// cut takes the first n bytes off a text.
func cut(text *string, n int) string {
	head := (*text)[:n]
	*text = (*text)[n:]
	return head
}
