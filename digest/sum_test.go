package digest_test

import (
	"bytes"
	"crypto/sha256"
	"slices"
	"strings"
	"testing"

	"sizar/api"
	"sizar/digest"
)

// P2.1: hashes that are published with the hash function.
func TestSum(t *testing.T) {
	for _, x := range []struct{ text, want string }{
		{"", "e3b0c44298fc1c149afbf4c8996fb92427ae41e4649b934ca495991b7852b855"},
		{"abc", "ba7816bf8f01cfea414140de5dae2223b00361a396177a9cb410ff61f20015ad"},
		{"abcdbcdecdefdefgefghfghighijhijkijkljklmklmnlmnomnopnopq", "248d6a61d20638b8e5c026930c3e6039a33ce45964ff2167f6ecedd419db06c1"},
		{"abcdefghbcdefghicdefghijdefghijkefghijklfghijklmghijklmnhijklmnoijklmnopjklmnopqklmnopqrlmnopqrsmnopqrstnopqrstu", "cf5b16a778af8380036ce59e7b0492370b249b11e8f07a51afac45037afee9d1"},
		{strings.Repeat("a", 1000000), "cdc76e5c9914fb9281a1c7e284d73e67f1809a48a497200e046d39ccc7112cd0"},
	} {
		if d := digest.Sum([]byte(x.text)); d != digestOf(t, x.want) {
			t.Errorf("%.20q: %x instead of %s", x.text, d, x.want)
		}
	}
}

// P2.1: every length around the borders of blocks, and of bytes that count the bits.
func TestSumOfLengths(t *testing.T) {
	var lengths []int
	for n := range 400 {
		lengths = append(lengths, n)
	}
	for _, n := range []int{4096, 8192, 65536, 1 << 21} {
		lengths = append(lengths, n-9, n-8, n-1, n, n+1)
	}
	for _, n := range lengths {
		for _, b := range [][]byte{random(n), make([]byte, n), bytes.Repeat([]byte{255}, n)} {
			if d := digest.Sum(b); d != sha256.Sum256(b) {
				t.Errorf("%d bytes: %x", n, d)
			}
		}
	}
}

// P2.1: a number of bits that needs more than 32 bits itself.
func TestSumOfMuch(t *testing.T) {
	if testing.Short() {
		t.Skip("takes some seconds")
	}
	b := make([]byte, 1<<29+3)
	b[len(b)-1] = 1
	if d := digest.Sum(b); d != sha256.Sum256(b) {
		t.Errorf("%x", d)
	}
}

// P2.1: the tag is hashed, and stands before the bytes.
func TestTagged(t *testing.T) {
	empty := digest.Sum(nil)
	if d := digest.Tagged("", nil); d != digest.Sum(empty[:]) {
		t.Errorf("%x", d)
	}
	for _, tag := range []string{"", "x", "leaf", "\x00", "\xff\xfe", "ä", strings.Repeat("t", 64), strings.Repeat("t", 1000)} {
		for n := range 100 {
			if d := digest.Tagged(tag, random(n)); d != tagged(tag, random(n)) {
				t.Errorf("%.20q, %d bytes: %x", tag, n, d)
			}
		}
	}
	if digest.Tagged("ab", []byte("c")) == digest.Tagged("a", []byte("bc")) {
		t.Error("the border of the tag does not count")
	}
}

// P2.1 and R3: nil is like an empty slice.
func TestNoBytes(t *testing.T) {
	if digest.Sum(nil) != digest.Sum([]byte{}) || digest.Tagged("x", nil) != digest.Tagged("x", []byte{}) {
		t.Error("nil and empty")
	}
}

// P2.1 and R2: neither the bytes nor the memory behind them are changed.
func TestSumIsPure(t *testing.T) {
	for n := range 130 {
		all := random(n + 200)
		before := slices.Clone(all)
		first := [2]api.Digest{digest.Sum(all[:n]), digest.Tagged("x", all[:n])}
		second := [2]api.Digest{digest.Sum(all[:n]), digest.Tagged("x", all[:n])}
		if first != second || !bytes.Equal(all, before) {
			t.Error(n)
		}
	}
}
