package lex_test

import (
	"math"
	"slices"
	"strconv"
	"strings"
	"testing"

	"sizar/api"
	"sizar/lex"
)

func expectText(t *testing.T, l []api.Token, want string, wantE api.Errno) {
	t.Helper()
	if s, e := lex.Text(l); s != want || e != wantE {
		t.Errorf("Text of %s is %.60q, %d instead of %.60q, %d", shown(l), s, e, want, wantE)
	}
}

// P9.2: the chapter's example, no tokens, one token and several ones.
func TestTextExamples(t *testing.T) {
	expectText(t, nil, "", api.OK)
	expectText(t, []api.Token{}, "", api.OK)
	expectText(t, []api.Token{name("a"), at(1, sign("=")), at(2, number(1))}, "a = 1", api.OK)
	expectText(t, []api.Token{name("earn"), number(30), sign(";")}, "earn 30 ;", api.OK)
	expectText(t, []api.Token{number(0)}, "0", api.OK)
	expectText(t, []api.Token{number(1 << 40), number(1<<40 - 1)}, "1099511627776 1099511627775", api.OK)
	expectText(t, []api.Token{sign("/"), sign("/"), name("a_"), name("a_")}, "/ / a_ a_", api.OK)
	for _, s := range signs {
		expectText(t, []api.Token{sign(string(s))}, string(s), api.OK)
	}
}

// P9.2: the places of tokens do not matter to Text.
func TestTextAtAnyPlace(t *testing.T) {
	for _, place := range []int{math.MinInt, -1, 0, 1, mostBytes + 1, math.MaxInt} {
		expectText(t, []api.Token{at(place, name("b")), at(7, number(3)), at(place, sign("."))}, "b 3 .", api.OK)
	}
}

// isValid is the chapter's definition of valid tokens.
func isValid(t api.Token) bool {
	switch t.Kind {
	case 1:
		return isName(t.Text) && t.N == 0
	case 2:
		return t.Text == "" && t.N >= 0 && t.N <= 1099511627776
	case 3:
		return len(t.Text) == 1 && strings.Contains(signs, t.Text) && t.N == 0
	}
	return false
}

// tokensOfAllKinds returns tokens that are valid and tokens that are not, with each text and number at each kind.
func tokensOfAllKinds() (l []api.Token) {
	some := []string{"", " ", "a", "a ", " a", "A_9", "9", "9a", "_", "_a", "a-", "//", "é", "\n", "a\x00", "{}", "; ", strings.Repeat("q", 32), strings.Repeat("q", 33)}
	for b := range 256 {
		some = append(some, string([]byte{byte(b)}))
	}
	for _, kind := range []int{math.MinInt, -1, 0, api.NameT, api.NumberT, api.SignT, 4, 257, 258, 259, math.MaxInt} {
		for _, text := range some {
			for _, n := range []int{math.MinInt, -1, 0, 1, 1<<40 - 1, 1 << 40, 1<<40 + 1, math.MaxInt} {
				l = append(l, api.Token{Kind: kind, Text: text, N: n})
			}
		}
	}
	return l
}

// P9.2: Text of one token of each kind, valid or not, and of lists with such a token at the beginning, in between and at the end.
func TestTextOfAllKinds(t *testing.T) {
	a, b := name("a"), number(2)
	for _, x := range tokensOfAllKinds() {
		lists := [][]api.Token{{x}, {x, a, b}, {a, x, b}, {a, b, x}}
		if !isValid(x) {
			for _, l := range lists {
				expectText(t, l, "", api.ErrText)
			}
			continue
		}
		s := x.Text
		if x.Kind == api.NumberT {
			s = strconv.Itoa(x.N)
		}
		for i, want := range []string{s, s + " a 2", "a " + s + " 2", "a 2 " + s} {
			expectText(t, lists[i], want, api.OK)
		}
	}
}

// P9.2: a text may be longer than any source.
func TestLongText(t *testing.T) {
	l := slices.Repeat([]api.Token{name(strings.Repeat("x", 32)), number(1 << 40), sign("-")}, mostBytes)
	expectText(t, l, strings.TrimSuffix(strings.Repeat(strings.Repeat("x", 32)+" 1099511627776 - ", mostBytes), " "), api.OK)
	expectText(t, append(l, api.Token{}), "", api.ErrText)
}

func expectSame(t *testing.T, a, b []api.Token, want bool) {
	t.Helper()
	if lex.Same(a, b) != want || lex.Same(b, a) != want {
		t.Errorf("Same of %s, %s is not %t", shown(a), shown(b), want)
	}
}

// P9.2: Same of equal tokens, of tokens of which one field differs, and of lists of which one goes on.
func TestSame(t *testing.T) {
	expectSame(t, nil, nil, true)
	expectSame(t, nil, []api.Token{}, true)
	expectSame(t, nil, []api.Token{{}}, false)
	a, b, c := name("a"), number(1), sign(";")
	expectSame(t, []api.Token{a, b, c}, []api.Token{at(3, a), at(-4, b), at(math.MaxInt, c)}, true)
	expectSame(t, []api.Token{a, b, c}, []api.Token{a, b}, false)
	expectSame(t, []api.Token{a, b, c}, []api.Token{b, c}, false)
	expectSame(t, []api.Token{a, b, c}, []api.Token{a, c, b}, false)
	for i := range 3 {
		for _, other := range []api.Token{{}, name("A"), name("b"), number(0), number(2), sign("."), {Kind: api.NameT, Text: "a", N: 1}, {Kind: api.NumberT, Text: "1", N: 1}, {Kind: api.NameT, Text: ";"}} {
			l := []api.Token{a, b, c}
			l[i] = other
			expectSame(t, []api.Token{a, b, c}, l, false)
		}
	}
}

// P9.2: Same compares tokens that need not be valid by Kind, Text and N alone.
func TestSameOfAllKinds(t *testing.T) {
	var l []api.Token
	for _, kind := range []int{math.MinInt, 0, 1, 2, 9} {
		for _, text := range []string{"", "a", "b", "ab", "//"} {
			for _, n := range []int{math.MinInt, -1, 0, 1, math.MaxInt} {
				l = append(l, api.Token{Kind: kind, Text: text, N: n, At: len(l)})
			}
		}
	}
	for i, x := range l {
		for k, y := range l {
			expectSame(t, []api.Token{x}, []api.Token{y}, i == k)
			expectSame(t, []api.Token{{}, x}, []api.Token{{}, at(-1, y)}, i == k)
		}
	}
}

// P9.2: Name of short strings, also with bytes that are no letters.
func TestName(t *testing.T) {
	for s, want := range map[string]bool{"B_12": true, "_12": false, "": false, "a": true, "Z": true, "a_": true, "a9": true, "9": false, "9a": false, "a b": false, " a": false, "a ": false, "a\n": false, "a-": false, "a.b": false, "é": false, "aé": false, "a\x00": false, "a//": false} {
		if lex.Name(s) != want {
			t.Errorf("Name of %q is not %t", s, want)
		}
	}
	for _, s := range texts(5, "a", "Q", "0", "9", "_", " ", "/", "\xff") {
		if lex.Name(s) != isName(s) {
			t.Errorf("Name of %q is not %t", s, isName(s))
		}
	}
	for a := range 256 {
		for b := range 256 {
			for _, s := range []string{string([]byte{byte(a)}), string([]byte{byte(a), byte(b)}), string([]byte{'x', byte(a), byte(b)})} {
				if lex.Name(s) != isName(s) {
					t.Errorf("Name of %q is not %t", s, isName(s))
				}
			}
		}
	}
}

// P9.2: names have at most 32 bytes.
func TestNameLengths(t *testing.T) {
	for n := range 300 {
		for _, s := range []string{strings.Repeat("x", n), "x" + strings.Repeat("_", n), strings.Repeat("x", n) + "1"} {
			if lex.Name(s) != (len(s) >= 1 && len(s) <= 32 && s[0] == 'x') {
				t.Error(len(s), s)
			}
		}
	}
}

// R2: neither tokens that are passed on nor those that were returned are changed.
func TestPure(t *testing.T) {
	src := "a 1; // b\n b/2"
	l, _, _ := lex.Lex(src)
	kept := slices.Clone(l)
	other, _, _ := lex.Lex("b 2")
	lex.Text(l)
	lex.Same(l, other)
	lex.Same(other, l[:2])
	lex.Text(append(slices.Clone(l), api.Token{}))
	again, _, _ := lex.Lex(src)
	if !slices.Equal(l, kept) || !slices.Equal(again, kept) || !slices.Equal(other, []api.Token{name("b"), at(2, number(2))}) {
		t.Error(l, again, other)
	}
}
