package parts

import (
	"strings"

	"latticekeys/api"
)

// Hint is 1 where r and r + z have other high parts; and how often it is.
func (s Set) Hint(z, r Poly) (hints Poly, ones int) {
	for i := range api.N {
		was, _ := s.part(int(r[i]))
		is, _ := s.part(int((r[i] + z[i]) % q))
		if was != is {
			hints[i] = 1
			ones++
		}
	}
	return hints, ones
}

// UseHint gives r's high parts; where a hint is 1, the one beside it, on the side where r lies.
func (s Set) UseHint(hints, r Poly) Poly {
	m := (q - 1) / (2 * s.Gamma)
	for i := range api.N {
		high, low := s.part(int(r[i]))
		switch {
		case hints[i] == 0:
		case low > 0:
			high = (high + 1) % m
		default:
			high = (high + m - 1) % m
		}
		r[i] = uint32(high)
	}
	return r
}

// HintBytes are how many bytes PackHint writes.
func (s Set) HintBytes() int { return s.Omega + s.K }

// PackHint writes the hints of K polynomials; false, if too many are 1.
func (s Set) PackHint(hints []Poly) (string, bool) {
	packed := make([]byte, s.HintBytes())
	ones := 0
	for i := range s.K {
		for place := range api.N {
			if hints[i][place] == 0 {
				continue
			}
			if ones == s.Omega {
				return "", false
			}
			packed[ones] = byte(place)
			ones++
		}
		packed[s.Omega+i] = byte(ones)
	}
	return string(packed), true
}

// UnpackHint reads HintBytes bytes; false, unless PackHint writes just these: hints that could be written in two ways would make two signatures of one.
func (s Set) UnpackHint(packed string) ([]Poly, bool) {
	places, ends := packed[:s.Omega], packed[s.Omega:]
	hints := make([]Poly, s.K)
	read := 0
	for i := range s.K {
		end := int(ends[i])
		if end < read || end > s.Omega || !rising(places[read:end]) {
			return nil, false
		}
		for n := range end - read {
			hints[i][places[read+n]] = 1
		}
		read = end
	}
	if strings.Trim(places[read:], "\x00") != "" {
		return nil, false
	}
	return hints, true
}

// rising: each byte is greater than the one ahead of it.
func rising(text string) bool {
	for i := range len(text) - 1 {
		if text[i] >= text[i+1] {
			return false
		}
	}
	return true
}
