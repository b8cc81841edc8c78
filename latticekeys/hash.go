package latticekeys

import (
	"latticekeys/api"
	"latticekeys/sponge"
)

// Sum is SHA3 of a text: of 256 or 512 bits (P3).
func Sum(bits int, s string) (string, error) {
	if bits != 256 && bits != 512 {
		return "", api.ErrSet
	}
	return sponge.Sum(bits, s), nil
}

// Stream is SHAKE (P4).
type Stream struct {
	sponge sponge.Sponge
}

// NewStream makes one, of 128 or 256 bits (P4).
func NewStream(bits int) (*Stream, error) {
	if bits != 128 && bits != 256 {
		return nil, api.ErrSet
	}
	return &Stream{sponge: sponge.Stream(bits, "")}, nil
}

// Absorb takes more bytes (P4).
func (x *Stream) Absorb(s string) error {
	if !x.made() {
		return api.ErrSet
	}
	if x.sponge.Spent() {
		return api.ErrSpent
	}
	x.sponge.Absorb(s)
	return nil
}

// Squeeze gives the next bytes (P4).
func (x *Stream) Squeeze(n int) (string, error) {
	if !x.made() {
		return "", api.ErrSet
	}
	if n < 0 || n > api.MaxSqueeze {
		return "", api.ErrLength
	}
	return string(x.sponge.Squeeze(n)), nil
}

// made is false for what NewStream gives beside an error, and for a Stream that it never saw: a call on one must not panic either.
func (x *Stream) made() bool { return x != nil && x.sponge.Started() }
