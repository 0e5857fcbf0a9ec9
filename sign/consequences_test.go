package sign_test

import (
	"math/big"
	"math/rand"
	"testing"

	"sizar/api"
	"sizar/group"
	"sizar/sign"
)

// P4.4: what is signed is accepted under the public key.
func TestSignedIsAccepted(t *testing.T) {
	for _, private := range privates(60) {
		p := public(t, private)
		for _, m := range messages() {
			if !sign.Verify(p, m, signed(t, private, m)) {
				t.Error(private, len(m))
			}
		}
	}
	for n := range 50 {
		private := sign.Private(api.Digest{3}, "campus", n)
		if s := signed(t, private, word(n)); !sign.Verify(public(t, private), word(n), s) {
			t.Error("campus", n)
		}
	}
}

// P4.4: there is one S for a public key, a message and an R, also if the R is none that Sign returns.
func TestOneS(t *testing.T) {
	random := rand.New(rand.NewSource(4))
	for _, private := range privates(5) {
		p := public(t, private)
		for _, m := range messages() {
			for _, k := range []int{0, 1, nonce(private, m)} {
				r := power(api.G, k)
				right := answer(k, challenge(p, r, m), private)
				l := []int{right, 0, 1, api.Q - 1, api.Q - right, (right + 1) % api.Q, (right + api.Q - 1) % api.Q, k, answer(k, 1, private)}
				for range 30 {
					l = append(l, random.Intn(api.Q))
				}
				for _, s := range l {
					if sign.Verify(p, m, api.Signature{R: r, S: s}) != (s == right) {
						t.Error(private, len(m), k, s)
					}
				}
			}
		}
	}
}

// P4.4: the S of two signatures differ by the difference of the nonces and by the product of the private key and the difference of the challenges.
func TestDifference(t *testing.T) {
	minus := func(a, b int) int { return modulo(api.Q, (*big.Int).Sub, a, b) }
	for _, private := range privates(10) {
		p := public(t, private)
		for _, m := range messages() {
			for _, n := range messages() {
				a, b := signed(t, private, m), signed(t, private, n)
				nonces := minus(nonce(private, m), nonce(private, n))
				challenges := minus(challenge(p, a.R, m), challenge(p, b.R, n))
				if minus(a.S, b.S) != answer(nonces, challenges, private) {
					t.Error(private, len(m), len(n))
				}
			}
		}
	}
}

// P4.4: the private key tells the nonce of a signature; its power is R.
func TestNonceIsFound(t *testing.T) {
	for _, private := range privates(20) {
		p := public(t, private)
		for _, m := range messages() {
			s := signed(t, private, m)
			k := answer(s.S, challenge(p, s.R, m), api.Q-private)
			if r, e := group.Base(k); e != api.OK || r != s.R || k != nonce(private, m) {
				t.Error(private, len(m), k, e)
			}
		}
	}
}
