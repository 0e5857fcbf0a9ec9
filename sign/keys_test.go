package sign_test

import (
	"math"
	"strings"
	"testing"

	"sizar/api"
	"sizar/sign"
)

// P4.1: public keys that are known without the program.
func TestKnownPublic(t *testing.T) {
	for _, x := range [][2]int{
		{1, api.G}, {2, 16}, {3, 64}, {30, 1 << 60}, {31, 1<<62 - api.P}, {api.Q - 1, (api.P + 1) / 4}, {api.Q - 2, 3746994889972244088},
		{1 << 32, 1570273683660303546}, {123456789012345678, 2720561433056860961},
	} {
		if p, e := sign.Public(x[0]); p != x[1] || e != api.OK {
			t.Error(x, p, e)
		}
	}
}

// P4.1: public keys of many private keys.
func TestPublic(t *testing.T) {
	for _, private := range privates(300) {
		if p, e := sign.Public(private); p != power(api.G, private) || e != api.OK {
			t.Error(private, p, e)
		}
	}
}

// P4.1: 0 is a scalar, but no private key; the other numbers are no scalars, and have the same error here.
func TestPublicRefuses(t *testing.T) {
	for _, private := range noPrivates() {
		if p, e := sign.Public(private); p != 0 || e != api.ErrKey {
			t.Error(private, p, e)
		}
	}
}

// P4.1: private keys that were calculated elsewhere.
func TestKnownPrivate(t *testing.T) {
	var rising, full api.Digest
	for i := range rising {
		rising[i], full[i] = byte(i), 255
	}
	for _, x := range []struct {
		seed    api.Digest
		label   string
		n, want int
	}{
		{api.Digest{}, "", 0, 1957765873086526272},
		{api.Digest{}, "", -1, 1734091513468314712},
		{rising, "campus", 3, 18084477655170664},
		{full, "a\x00\xff", math.MinInt, 2209335565006541322},
		{api.Digest{1}, "ab", 258, 1089897492552191359},
		{api.Digest{}, "ä", math.MaxInt, 1125100690288452390},
	} {
		if k := sign.Private(x.seed, x.label, x.n); k != x.want {
			t.Error(x, k)
		}
	}
}

var numbers = []int{0, 1, 2, 127, 128, 255, 256, 65536, 1 << 31, 1 << 32, 1 << 62, math.MaxInt, -1, -2, -256, math.MinInt, math.MinInt + 1}

// P4.1: all seeds, labels and numbers are accepted, and what they lead to is a private key.
func TestPrivate(t *testing.T) {
	for _, seed := range []api.Digest{{}, {1}, {31: 1}, {255, 254, 253}} {
		for _, label := range []string{"", "a", "campus", "\x00", "\xff\xfe", "ä", strings.Repeat("l", 1000)} {
			for _, n := range numbers {
				k := sign.Private(seed, label, n)
				if k != scalar("private", seed[:], word(n), []byte(label)) || k != sign.Private(seed, label, n) {
					t.Errorf("%x, %.10q, %d: %d", seed, label, n, k)
				}
				if _, e := sign.Public(k); e != api.OK {
					t.Errorf("%x, %.10q, %d: %d is no private key", seed, label, n, k)
				}
			}
		}
	}
}

// P4.1: each part of what leads to a private key counts, and the number has its 8 bytes in front of the label.
func TestPrivateDepends(t *testing.T) {
	type source struct {
		seed  api.Digest
		label string
		n     int
	}
	found := map[int]source{}
	for _, seed := range []api.Digest{{}, {1}, {31: 1}, {24: 1}} {
		for _, label := range []string{"", "\x00", "\x01", "\x00\x00", "\x00\x01", "\x01\x00", "a", "ab"} {
			for _, n := range numbers {
				x := source{seed, label, n}
				k := sign.Private(seed, label, n)
				if y, known := found[k]; known {
					t.Error(x, y)
				}
				found[k] = x
			}
		}
	}
}
