// Package sponge has the sponge that SHA3 and SHAKE are made of (DOC.md, P3 and P4).
package sponge

// lastBit closes the last rate of a text.
const lastBit = 0x80

// Sponge takes a text in and gives bytes out. It is a value: a copy of it goes on by itself.
type Sponge struct {
	lanes state
	rate  int  // bytes of the state that are taken or given between two permutations; 0: never started
	end   byte // stands behind the text
	place int  // the byte of the state that is the next one
	spent bool // the text has its end
}

// Start makes it a sponge that took nothing yet, whatever it was. The rate is 1 to 199 bytes.
func (s *Sponge) Start(rate int, end byte) {
	clear(s.lanes[:])
	s.rate, s.end, s.place, s.spent = rate, end, 0, false
}

// Started tells whether Start was ever called.
func (s *Sponge) Started() bool { return s.rate != 0 }

// Spent tells whether the text has its end, so that no more can be taken.
func (s *Sponge) Spent() bool { return s.spent }

// Absorb takes a text behind what was taken. It must not be spent.
func (s *Sponge) Absorb(text string) {
	for i := 0; i < len(text); i++ {
		s.mix(s.place, text[i])
		s.place++
		if s.place == s.rate {
			s.turn()
		}
	}
}

// Squeeze gives the next n bytes, of memory that is the caller's.
func (s *Sponge) Squeeze(n int) []byte {
	out := make([]byte, n)
	s.Fill(out)
	return out
}

// Fill gives the next bytes, as many as out has room for. The first time ends the text, even with no room.
func (s *Sponge) Fill(out []byte) {
	if !s.spent {
		s.finish()
	}
	for i := range out {
		// Not behind the rate's last byte already: it may be the last one that is ever asked for.
		if s.place == s.rate {
			s.turn()
		}
		out[i] = byte(s.lanes[s.place/laneBytes] >> shift(s.place))
		s.place++
	}
}

// finish lays the end behind the text; both marks may fall on one byte.
func (s *Sponge) finish() {
	s.mix(s.place, s.end)
	s.mix(s.rate-1, lastBit)
	s.turn()
	s.spent = true
}

// turn permutes the state and goes back to its first byte.
func (s *Sponge) turn() {
	s.lanes.permute()
	s.place = 0
}

// mix XORs a byte into byte i of the state.
func (s *Sponge) mix(i int, b byte) {
	s.lanes[i/laneBytes] ^= uint64(b) << shift(i)
}

// shift is how far byte i of the state stands from the low end of its lane.
func shift(i int) int { return i % laneBytes * 8 }
