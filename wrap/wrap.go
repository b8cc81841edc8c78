package wrap

import (
	"slices"

	"latticekeys/api"
	"latticekeys/lattice"
	"latticekeys/ring"
	"latticekeys/sponge"
	"latticekeys/text"
	"latticekeys/throw"
)

// ciphertextNoise is the greatest noise that is laid over a ciphertext.
const ciphertextNoise = 2

// Encaps makes a key of a message, and the ciphertext that carries it. It throws ErrLength and ErrKey.
func (s *Scheme) Encaps(ek, m string) (key, ciphertext string) {
	throw.Unless(len(ek) == s.encapsulationKeyBytes() && len(m) == seedBytes, api.ErrLength)
	t := s.readEncapsulationKey(ek).t
	throw.Unless(slices.Equal(t, t.Each(s.ring.Reduced)), api.ErrKey)
	key, seed := twoSeeds(m + sponge.Sum(256, ek))
	return key, s.encrypted(ek, m, seed)
}

// Decaps gets the key out of a ciphertext, or, out of one that Encaps does not make, another that tells nothing. It throws ErrLength and ErrHash.
func (s *Scheme) Decaps(dk, c string) string {
	throw.Unless(len(dk) == s.decapsulationKeyBytes() && len(c) == s.ciphertextBytes(), api.ErrLength)
	secret := s.readDecapsulationKey(dk)
	throw.Unless(secret.hash == hash([]byte(sponge.Sum(256, secret.ek))), api.ErrHash)
	m := s.decrypted(secret.s, c)
	key, seed := twoSeeds(m + string(secret.hash[:]))
	if s.encrypted(secret.ek, m, seed) != c {
		return sponge.H(secret.z+c, seedBytes)
	}
	return key
}

// encrypted is ENCRYPTED(ek, m, seed).
func (s *Scheme) encrypted(ek, m, seed string) string {
	public := s.readEncapsulationKey(ek)
	y := s.noises(s.eta, seed, 0).Each(s.ring.Forward)
	u := lattice.Draw(s.ring, public.rho, s.k, s.k).Transposed().Times(y).Each(s.ring.Inverse)
	u = u.With(s.noises(ciphertextNoise, seed, s.k), s.ring.Sum)
	v := s.ring.Inverse(lattice.Dot(s.ring, public.t.Each(s.ring.Reduced), y))
	v = s.ring.Sum(v, s.noise(ciphertextNoise, seed, 2*s.k))
	v = s.ring.Sum(v, ring.Decompress(1, ring.Unpack[uint16](1, m)))
	return compressed(s.du, u) + compressed(s.dv, vector{v})
}

// decrypted is the message that a ciphertext carries: what the noise leaves of each bit is nearer to it than to the other.
func (s *Scheme) decrypted(secret vector, c string) string {
	u := decompressed(s.du, text.Cut(&c, s.k*ring.PackedBytes(s.du))).Each(s.ring.Forward)
	v := decompressed(s.dv, c)[0]
	mask := s.ring.Inverse(lattice.Dot(s.ring, secret.Each(s.ring.Reduced), u))
	return compressed(1, vector{s.ring.Difference(v, mask)})
}

func compressed(d int, v vector) string {
	return lattice.Pack(d, v.Each(func(f poly) poly { return ring.Compress(d, f) }))
}

func decompressed(d int, packed string) vector {
	return lattice.Unpack[uint16](d, packed).Each(func(f poly) poly { return ring.Decompress(d, f) })
}
