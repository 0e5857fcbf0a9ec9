package codec_test

import (
	"math"
	"math/rand"
	"slices"
	"strings"

	"sizar/api"
)

func number(n int) api.Value { return api.Value{Kind: api.IntV, N: n} }

func text(s string) api.Value { return api.Value{Kind: api.TextV, S: s} }

func list(l ...api.Value) api.Value { return api.Value{Kind: api.ListV, L: l} }

// nested puts v into n lists, one within the other.
func nested(n int, v api.Value) api.Value {
	for range n {
		v = list(v)
	}
	return v
}

func zeros(n int) api.Value {
	return list(slices.Repeat([]api.Value{number(0)}, n)...)
}

// samples returns different well-formed values: ordinary ones, and those at the borders of numerals.
func samples() (l []api.Value) {
	for _, n := range []int{0, 1, 2, 3, 100, 255, 256, 1 << 40, math.MaxInt} {
		l = append(l, number(n), number(-n-1))
	}
	for k := 6; k < 63; k += 7 {
		l = append(l, number(1<<k-1), number(1<<k), number(-1<<k), number(-1<<k-1))
	}
	for _, s := range []string{"", "a", "ab", "ba", "\x00", "\x80", "ä", "\x01\x00"} {
		l = append(l, text(s))
	}
	for _, n := range []int{127, 128, 16383, 16384} {
		l = append(l, text(strings.Repeat("x", n)), zeros(n))
	}
	return append(l, list(), zeros(1), zeros(2), list(number(1)), list(text("")), list(list()), list(list(), list()),
		list(number(100), text("ab")), list(text("ab"), number(100)), list(zeros(1), number(0)), list(number(0), zeros(1)),
		nested(15, list()), nested(16, number(0)), nested(16, text("a")))
}

// random returns a well-formed value with no more than depth lists around each other.
func random(r *rand.Rand, depth int) api.Value {
	kind := r.Intn(5)
	if kind < 2 || depth == 0 && kind > 2 {
		return number(int(r.Uint64()) >> r.Intn(64))
	}
	if kind == 2 {
		b := make([]byte, r.Intn(4)*r.Intn(80))
		r.Read(b)
		return text(string(b))
	}
	v := list()
	for range r.Intn(4) {
		v.L = append(v.L, random(r, depth-1))
	}
	return v
}
