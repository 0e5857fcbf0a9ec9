package sign_test

import (
	"crypto/sha256"
	"encoding/binary"
	"math"
	"math/big"
	"math/rand"
	"slices"
	"testing"

	"sizar/api"
	"sizar/sign"
)

// What follows is the chapter's definitions over Go's library, without the packages of the project.

func big64(n int) *big.Int { return big.NewInt(int64(n)) }

func modulo(m int, op func(z, a, b *big.Int) *big.Int, a, b int) int {
	z := op(new(big.Int), big64(a), big64(b))
	return int(z.Mod(z, big64(m)).Int64())
}

func times(a, b int) int { return modulo(api.P, (*big.Int).Mul, a, b) }

func power(a, k int) int {
	return int(new(big.Int).Exp(big64(a), big64(k), big64(api.P)).Int64())
}

func scalar(tag string, parts ...[]byte) int {
	t := sha256.Sum256([]byte(tag))
	d := sha256.Sum256(append(t[:], slices.Concat(parts...)...))
	n := new(big.Int).SetBytes(d[:])
	return 1 + int(n.Mod(n, big64(api.Q-1)).Int64())
}

func word(n int) []byte {
	return binary.BigEndian.AppendUint64(nil, uint64(n))
}

func challenge(public, r int, message []byte) int {
	return scalar("sign", word(r), word(public), message)
}

func nonce(private int, message []byte) int {
	return scalar("nonce", word(private), message)
}

// answer returns k + h * private modulo Q, which is the S for an R that is the power k.
func answer(k, h, private int) int {
	return modulo(api.Q, (*big.Int).Add, k, modulo(api.Q, (*big.Int).Mul, h, private))
}

func signature(private int, message []byte) api.Signature {
	k := nonce(private, message)
	r := power(api.G, k)
	return api.Signature{R: r, S: answer(k, challenge(power(api.G, private), r, message), private)}
}

func isElement(a int) bool {
	return 1 <= a && a < api.P && big.Jacobi(big64(a), big64(api.P)) == 1
}

// holds is the equation of Verify alone, modulo P whatever the numbers are; S is reduced modulo Q.
func holds(public int, message []byte, s api.Signature) bool {
	exponent := modulo(api.Q, (*big.Int).Add, s.S, 0)
	return power(api.G, exponent) == times(s.R, power(public, challenge(public, s.R, message)))
}

func accepted(public int, message []byte, s api.Signature) bool {
	return isElement(public) && isElement(s.R) && 0 <= s.S && s.S < api.Q && holds(public, message, s)
}

// privates returns private keys at the borders, and random ones.
func privates(n int) []int {
	l := []int{1, 2, 3, 5, 255, 256, 12345, 1 << 32, 1<<60 - 1, 1 << 60, api.Q / 2, api.Q/2 + 1, api.Q - 2, api.Q - 1}
	r := rand.New(rand.NewSource(1))
	for range n {
		l = append(l, 1+r.Intn(api.Q-1))
	}
	return l
}

// noPrivates returns numbers that are no private keys. Some of them are private keys plus or minus a multiple of Q.
func noPrivates() []int {
	return []int{
		0, -1, -2, -5, 1 - api.Q, -api.Q, -api.Q - 1, -api.P, math.MinInt + 1, math.MinInt,
		api.Q, api.Q + 1, api.Q + 5, 2*api.Q - 1, 2 * api.Q, api.P, 3*api.Q + 1, 1 << 62, math.MaxInt - 1, math.MaxInt,
	}
}

func randomBytes(n int) []byte {
	b := make([]byte, n)
	rand.New(rand.NewSource(int64(n))).Read(b)
	return b
}

// messages returns different messages, among them some of many blocks of the hash.
func messages() [][]byte {
	l := [][]byte{nil, {0}, {0, 0}, {255}, []byte("a"), []byte("b"), []byte("a longer message"), []byte("\xff\xfe\x80")}
	for _, n := range []int{7, 8, 31, 32, 48, 63, 64, 65, 100, 1000} {
		l = append(l, randomBytes(n))
	}
	return l
}

func signed(t *testing.T, private int, message []byte) api.Signature {
	t.Helper()
	s, e := sign.Sign(private, message)
	if e != api.OK {
		t.Fatal(private, e)
	}
	return s
}

func public(t *testing.T, private int) int {
	t.Helper()
	p, e := sign.Public(private)
	if e != api.OK {
		t.Fatal(private, e)
	}
	return p
}
