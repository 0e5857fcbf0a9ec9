package sign

import (
	"slices"

	"sizar/group"
)

// challenge takes in the public key as well as R, so that a signature of one key is none of another one.
func challenge(public, r int, message []byte) int {
	return scalar("sign", word(r), word(public), message)
}

// nonce depends on the whole message and on the private key, so that no two messages share it and nobody else knows it: two signatures with one nonce would tell the private key.
func nonce(private int, message []byte) int {
	return scalar("nonce", word(private), message)
}

func scalar(tag string, parts ...[]byte) int {
	return group.Scalar(tag, slices.Concat(parts...))
}

// word returns the bytes of a number.
func word(n int) []byte {
	b := make([]byte, 8)
	for i := range b {
		b[len(b)-1-i] = byte(n >> (8 * i))
	}
	return b
}
