// Package latticekeys: keys that are wrapped, and signatures, by lattices: see DOC.md.
package latticekeys

import "latticekeys/api"

// Halve parts each coefficient in a high part and 13 low bits (P12).
func Halve(f api.Poly) (api.Poly, api.Poly, error) { return api.Poly{}, api.Poly{}, nil }

// Decompose parts each coefficient in a high part and a low part of a set (P12).
func Decompose(set int, f api.Poly) (api.Poly, api.Poly, error) {
	return api.Poly{}, api.Poly{}, nil
}

// Hint tells where a sum has another high part; how often (P13).
func Hint(set int, z, r api.Poly) (api.Poly, int, error) { return api.Poly{}, 0, nil }

// UseHint gives the high parts that hints tell of (P13).
func UseHint(set int, h, r api.Poly) (api.Poly, error) { return api.Poly{}, nil }

// PackHint writes hints (P14).
func PackHint(set int, l []api.Poly) (string, error) { return "", nil }

// UnpackHint reads them (P14).
func UnpackHint(set int, s string) ([]api.Poly, error) { return nil, nil }

// SignKeys makes a public key and a secret key (P16).
func SignKeys(set int, xi string) (string, string, error) { return "", "", nil }

// Sign signs, in at most so many tries (P17).
func Sign(set int, sk, m, rnd string, fuel int) (string, error) { return "", nil }

// Verify tells whether a signature is one (P18).
func Verify(set int, pk, m, sig string) (bool, error) { return false, nil }

// SignWith signs a message with a context (P19).
func SignWith(set int, sk, ctx, m, rnd string, fuel int) (string, error) { return "", nil }

// VerifyWith verifies it (P19).
func VerifyWith(set int, pk, ctx, m, sig string) (bool, error) { return false, nil }
