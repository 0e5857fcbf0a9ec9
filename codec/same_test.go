package codec_test

import (
	"testing"

	"sizar/api"
	"sizar/codec"
)

// P1.3: a value is the same as itself, and as none of the others.
func TestSame(t *testing.T) {
	one := []api.Value{number(1)}
	l := append(samples(),
		api.Value{},
		api.Value{N: 1},
		api.Value{S: "a"},
		api.Value{L: one},
		api.Value{Kind: -1},
		api.Value{Kind: 4},
		api.Value{Kind: api.IntV, S: "a"},
		api.Value{Kind: api.IntV, L: one},
		api.Value{Kind: api.TextV, N: 1},
		api.Value{Kind: api.TextV, S: "a", N: 1},
		api.Value{Kind: api.TextV, S: "a", L: one},
		api.Value{Kind: api.ListV, N: 1},
		api.Value{Kind: api.ListV, S: "a", L: one},
		list(number(1), api.Value{}),
		list(number(1), api.Value{N: 1}),
		nested(17, number(0)),
		nested(17, number(1)),
		nested(1<<16, number(0)),
		nested(1<<16, number(1)),
	)
	for i, x := range l {
		for k, y := range l {
			if codec.Same(x, y) != (i == k) {
				t.Error(i, k)
			}
		}
	}
}

// P1.3: it is the elements that count, not the memory they stand in.
func TestSameInOtherMemory(t *testing.T) {
	for i, v := range samples() {
		x := v
		x.L = append(make([]api.Value, 0, len(v.L)+1), v.L...)
		if !codec.Same(v, x) || !codec.Same(x, v) {
			t.Error(i)
		}
	}
	if x, y := nested(3, list()), nested(3, api.Value{Kind: api.ListV, L: []api.Value{}}); !codec.Same(x, y) || !codec.Same(y, x) {
		t.Error("nil and empty")
	}
}
