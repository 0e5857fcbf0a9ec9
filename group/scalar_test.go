package group_test

import (
	"bytes"
	"crypto/sha256"
	"math/big"
	"math/rand"
	"slices"
	"strings"
	"testing"

	"sizar/api"
	"sizar/group"
)

// scalar is the chapter's definition over Go's library.
func scalar(tag string, b []byte) int {
	t := sha256.Sum256([]byte(tag))
	d := sha256.Sum256(slices.Concat(t[:], b))
	n := new(big.Int).SetBytes(d[:])
	return 1 + int(n.Mod(n, big.NewInt(api.Q-1)).Int64())
}

func randomBytes(n int) []byte {
	b := make([]byte, n)
	rand.New(rand.NewSource(int64(n))).Read(b)
	return b
}

// P3.4: tags and bytes of many lengths.
func TestScalar(t *testing.T) {
	for _, tag := range []string{"", "sign", "nonce", "private", "\x00", "\xff\xfe", "ä", strings.Repeat("t", 1000)} {
		for n := range 300 {
			k := group.Scalar(tag, randomBytes(n))
			if k != scalar(tag, randomBytes(n)) || k < 1 || k >= api.Q {
				t.Errorf("%.10q, %d bytes: %d", tag, n, k)
			}
		}
	}
	if b := randomBytes(1 << 20); group.Scalar("x", b) != scalar("x", b) {
		t.Error("many bytes")
	}
}

// P3.4: scalars of one tag are spread over all of 1 to Q - 1.
func TestScalarsAreSpread(t *testing.T) {
	least, greatest := api.Q, 0
	for n := range 2000 {
		k := group.Scalar("spread", []byte{byte(n), byte(n >> 8)})
		least, greatest = min(least, k), max(greatest, k)
	}
	if least > api.Q/100 || greatest < api.Q/100*99 {
		t.Error(least, greatest)
	}
}

// P3.4: tag and bytes both count, and so does the border between them.
func TestScalarDepends(t *testing.T) {
	k := group.Scalar("ab", []byte("cd"))
	for _, x := range [][2]string{{"a", "bcd"}, {"abc", "d"}, {"", "abcd"}, {"abcd", ""}, {"ab", "ce"}, {"ac", "cd"}, {"ab", "cd\x00"}} {
		if group.Scalar(x[0], []byte(x[1])) == k {
			t.Error(x)
		}
	}
}

// P3.4 and R3: nil is like an empty slice.
func TestScalarOfNothing(t *testing.T) {
	if k := group.Scalar("x", nil); k != group.Scalar("x", []byte{}) || k != scalar("x", nil) {
		t.Error(k)
	}
}

// P3.4 and R2: neither the bytes nor the memory behind them are changed, and equal calls have equal results.
func TestScalarIsPure(t *testing.T) {
	for n := range 130 {
		all := randomBytes(n + 100)
		before := slices.Clone(all)
		if group.Scalar("x", all[:n]) != group.Scalar("x", all[:n]) || !bytes.Equal(all, before) {
			t.Error(n)
		}
	}
}
