package sponge

// The ends by which the two kinds of hashes differ.
const (
	sumEnd    = 0x06
	streamEnd = 0x1F
)

// Sum is SHA3 of a text, with 256 or 512 bits.
func Sum(bits int, text string) string {
	var s Sponge
	s.Start(rateOf(bits), sumEnd)
	s.Absorb(text)
	return string(s.Squeeze(bits / 8))
}

// Stream is SHAKE with 128 or 256 bits, which has taken a text.
func Stream(bits int, text string) Sponge {
	var s Sponge
	s.Start(rateOf(bits), streamEnd)
	s.Absorb(text)
	return s
}

// H is the document's H(s, n): the first n bytes of SHAKE with 256 bits.
func H(text string, n int) string {
	s := Stream(256, text)
	return string(s.Squeeze(n))
}

// rateOf: of the 200 bytes of a state a hash holds twice its bits back.
func rateOf(bits int) int { return 200 - 2*bits/8 }
