package latticekeys

import (
	"latticekeys/sign"
	"latticekeys/throw"
)

// SignKeys makes a public key and a secret key (P16).
func SignKeys(set int, xi string) (string, string, error) {
	var pk, sk string
	err := throw.Caught(func() { pk, sk = sign.New(set).Keys(xi) })
	return pk, sk, err
}

// Sign signs, in at most so many tries (P17).
func Sign(set int, sk, m, rnd string, fuel int) (string, error) {
	var signature string
	err := throw.Caught(func() { signature = sign.New(set).Sign(sk, m, rnd, fuel) })
	return signature, err
}

// Verify tells whether a signature is one (P18).
func Verify(set int, pk, m, sig string) (bool, error) {
	var is bool
	err := throw.Caught(func() { is = sign.New(set).Verify(pk, m, sig) })
	return is, err
}

// SignWith signs a message with a context (P19).
func SignWith(set int, sk, ctx, m, rnd string, fuel int) (string, error) {
	var signature string
	err := throw.Caught(func() { signature = sign.New(set).SignWith(sk, ctx, m, rnd, fuel) })
	return signature, err
}

// VerifyWith verifies it (P19).
func VerifyWith(set int, pk, ctx, m, sig string) (bool, error) {
	var is bool
	err := throw.Caught(func() { is = sign.New(set).VerifyWith(pk, ctx, m, sig) })
	return is, err
}
