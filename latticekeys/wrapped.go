package latticekeys

import (
	"latticekeys/throw"
	"latticekeys/wrap"
)

// KeyGen makes an encapsulation key and a decapsulation key (P9).
func KeyGen(set int, d, z string) (string, string, error) {
	var ek, dk string
	err := throw.Caught(func() { ek, dk = wrap.New(set).KeyGen(d, z) })
	return ek, dk, err
}

// Encaps makes a key, and the ciphertext that carries it (P10).
func Encaps(set int, ek, m string) (string, string, error) {
	var key, ciphertext string
	err := throw.Caught(func() { key, ciphertext = wrap.New(set).Encaps(ek, m) })
	return key, ciphertext, err
}

// Decaps gets the key out of the ciphertext (P11).
func Decaps(set int, dk, c string) (string, error) {
	var key string
	err := throw.Caught(func() { key = wrap.New(set).Decaps(dk, c) })
	return key, err
}
