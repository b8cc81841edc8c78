package latticekeys

import (
	"latticekeys/api"
	"latticekeys/parts"
	"latticekeys/ring"
)

// Halve parts each coefficient in a high part and 13 low bits (P12).
func Halve(f api.Poly) (api.Poly, api.Poly, error) { return parted(parts.Halve, f) }

// Decompose parts each coefficient in a high part and a low part of a set (P12).
func Decompose(set int, f api.Poly) (api.Poly, api.Poly, error) {
	s, err := parts.New(set)
	if err != nil {
		return api.Poly{}, api.Poly{}, err
	}
	return parted(s.Decompose, f)
}

// Hint tells where a sum has another high part; how often (P13).
func Hint(set int, z, r api.Poly) (api.Poly, int, error) {
	s, err := parts.New(set)
	if err != nil {
		return api.Poly{}, 0, err
	}
	narrow, err := narrowed[uint32](api.Great, z, r)
	if err != nil {
		return api.Poly{}, 0, err
	}
	hints, ones := s.Hint(narrow[0], narrow[1])
	return ring.Wide(hints), ones, nil
}

// UseHint gives the high parts that hints tell of (P13).
func UseHint(set int, h, r api.Poly) (api.Poly, error) {
	s, err := parts.New(set)
	if err != nil {
		return api.Poly{}, err
	}
	hints, err := ring.Narrow[uint32](h, 2)
	if err != nil {
		return api.Poly{}, err
	}
	return calculate(api.Great, func(l []parts.Poly) parts.Poly { return s.UseHint(hints, l[0]) }, r)
}

// PackHint writes hints (P14).
func PackHint(set int, l []api.Poly) (string, error) {
	s, err := parts.New(set)
	if err != nil {
		return "", err
	}
	if len(l) != s.K {
		return "", api.ErrLength
	}
	hints, err := narrowed[uint32](2, l...)
	if err != nil {
		return "", err
	}
	packed, few := s.PackHint(hints)
	if !few {
		return "", api.ErrHint
	}
	return packed, nil
}

// UnpackHint reads them (P14).
func UnpackHint(set int, s string) ([]api.Poly, error) {
	p, err := parts.New(set)
	if err != nil {
		return nil, err
	}
	if len(s) != p.HintBytes() {
		return nil, api.ErrLength
	}
	hints, written := p.UnpackHint(s)
	if !written {
		return nil, api.ErrHint
	}
	l := make([]api.Poly, p.K)
	for i := range p.K {
		l[i] = ring.Wide(hints[i])
	}
	return l, nil
}

// parted hands out both parts of a polynomial that must be in bounds of q.
func parted(part func(f parts.Poly) (high, low parts.Poly), f api.Poly) (api.Poly, api.Poly, error) {
	narrow, err := ring.Narrow[uint32](f, api.Great)
	if err != nil {
		return api.Poly{}, api.Poly{}, err
	}
	high, low := part(narrow)
	return ring.Wide(high), parts.Centred(low), nil
}
