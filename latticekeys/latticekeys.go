// Package latticekeys: keys that are wrapped, and signatures, by lattices: see DOC.md.
package latticekeys

// Verify tells whether a signature is one (P18).
func Verify(set int, pk, m, sig string) (bool, error) { return false, nil }

// SignWith signs a message with a context (P19).
func SignWith(set int, sk, ctx, m, rnd string, fuel int) (string, error) { return "", nil }

// VerifyWith verifies it (P19).
func VerifyWith(set int, pk, ctx, m, sig string) (bool, error) { return false, nil }
