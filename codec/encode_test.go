package codec_test

import (
	"bytes"
	"math"
	"strings"
	"testing"

	"sizar/api"
	"sizar/codec"
)

// refuses reports whether Check, Encode and Size all return this error, and nothing else.
func refuses(v api.Value, want api.Errno) bool {
	b, e := codec.Encode(v)
	n, f := codec.Size(v)
	return codec.Check(v) == want && e == want && f == want && len(b) == 0 && n == 0
}

// P1.1: encodings that the chapter states, or that follow from its table.
func TestEncodings(t *testing.T) {
	nines := strings.Repeat("\xff", 9)
	for _, x := range []struct {
		v    api.Value
		want string
	}{
		{number(0), "\x01\x00"},
		{number(-1), "\x01\x01"},
		{number(1), "\x01\x02"},
		{number(-3), "\x01\x05"},
		{number(63), "\x01\x7e"},
		{number(-64), "\x01\x7f"},
		{number(64), "\x01\x80\x01"},
		{number(-65), "\x01\x81\x01"},
		{number(100), "\x01\xc8\x01"},
		{number(8191), "\x01\xfe\x7f"},
		{number(8192), "\x01\x80\x80\x01"},
		{number(math.MaxInt), "\x01\xfe" + nines[1:] + "\x01"},
		{number(math.MinInt), "\x01" + nines + "\x01"},
		{text(""), "\x02\x00"},
		{text("ab"), "\x02\x02ab"},
		{text("\x00\xff"), "\x02\x02\x00\xff"},
		{text("ä"), "\x02\x02\xc3\xa4"},
		{text(strings.Repeat("x", 127)), "\x02\x7f" + strings.Repeat("x", 127)},
		{text(strings.Repeat("x", 128)), "\x02\x80\x01" + strings.Repeat("x", 128)},
		{list(), "\x03\x00"},
		{list(number(100), text("ab")), "\x03\x02\x01\xc8\x01\x02\x02ab"},
		{list(list(), zeros(1)), "\x03\x02\x03\x00\x03\x01\x01\x00"},
		{zeros(127), "\x03\x7f" + strings.Repeat("\x01\x00", 127)},
		{zeros(128), "\x03\x80\x01" + strings.Repeat("\x01\x00", 128)},
		{nested(15, list()), strings.Repeat("\x03\x01", 15) + "\x03\x00"},
		{nested(16, number(0)), strings.Repeat("\x03\x01", 16) + "\x01\x00"},
	} {
		if e := codec.Check(x.v); e != api.OK {
			t.Errorf("Check of %q: %d", x.want, e)
		}
		if b, e := codec.Encode(x.v); e != api.OK || string(b) != x.want {
			t.Errorf("Encode: %q, %d instead of %q", b, e, x.want)
		}
		if n, e := codec.Size(x.v); e != api.OK || n != len(x.want) {
			t.Errorf("Size of %q: %d, %d", x.want, n, e)
		}
	}
}

// P1.1: a kind that there is not, or a field that the kind does not use, anywhere in the value.
func TestNotWellFormed(t *testing.T) {
	one := []api.Value{number(1)}
	for i, v := range []api.Value{
		{},
		{Kind: -1},
		{Kind: 4},
		{Kind: math.MinInt},
		{Kind: math.MaxInt},
		{Kind: api.IntV + 1<<32},
		{N: 1},
		{S: "a"},
		{L: one},
		{Kind: api.IntV, S: "a"},
		{Kind: api.IntV, L: one},
		{Kind: api.TextV, N: 1},
		{Kind: api.TextV, S: "a", N: -1},
		{Kind: api.TextV, L: one},
		{Kind: api.ListV, N: 1},
		{Kind: api.ListV, S: "a"},
		{Kind: api.ListV, L: one, N: 1},
	} {
		for _, x := range []api.Value{v, list(v), list(number(1), v), list(v, number(1)), nested(16, v), list(list(text("a"), v), list())} {
			if !refuses(x, api.ErrArg) {
				t.Error(i, codec.Check(x))
			}
		}
	}
}

// P1.1: what is too deep, and that ErrArg is looked for before ErrLimit.
func TestDepth(t *testing.T) {
	const levels = 1 << 16
	for i, v := range []api.Value{
		nested(16, list()),
		nested(17, number(0)),
		list(number(0), nested(16, text("a")), number(0)),
		nested(levels, number(0)),
	} {
		if !refuses(v, api.ErrLimit) {
			t.Error(i, codec.Check(v))
		}
	}
	for i, v := range []api.Value{
		list(nested(17, number(0)), api.Value{}),
		list(api.Value{}, nested(17, number(0))),
		nested(17, api.Value{}),
		nested(levels, api.Value{Kind: api.TextV, N: 1}),
	} {
		if !refuses(v, api.ErrArg) {
			t.Error(i, codec.Check(v))
		}
	}
}

// P1.1 and R3: an empty slice in a field that is not used is like nil.
func TestEmptySlices(t *testing.T) {
	for i, v := range []api.Value{number(7), text("a"), list()} {
		x := v
		x.L = []api.Value{}
		b, _ := codec.Encode(v)
		if c, e := codec.Encode(x); e != api.OK || !bytes.Equal(b, c) {
			t.Error(i, c, e)
		}
	}
}
