package latticekeys

import (
	"latticekeys/sign"
	"latticekeys/throw"
)

// SignKeys makes a public key and a secret key (P16).
func SignKeys(set int, xi string) (string, string, error) {
	var pk, sk string
	err := throw.Caught(func() { pk, sk = sign.New(set).Keys(xi) })
	return pk, sk, err
}

// Sign signs, in at most so many tries (P17).
func Sign(set int, sk, m, rnd string, fuel int) (string, error) {
	var signature string
	err := throw.Caught(func() { signature = sign.New(set).Sign(sk, m, rnd, fuel) })
	return signature, err
}
