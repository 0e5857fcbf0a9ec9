package lex_test

import (
	"math/rand"
	"slices"
	"strconv"
	"strings"
	"testing"

	"sizar/api"
	"sizar/lex"
)

// P9.3: Lex of what Text returns are the same tokens, if the text is not too long.
func TestLexOfText(t *testing.T) {
	for _, l := range lists(2000, 2) {
		src, e := lex.Text(l)
		if e != api.OK {
			t.Fatal(l, e)
		}
		x, _, e := lex.Lex(src)
		if e != api.OK || !lex.Same(x, l) {
			t.Errorf("%.200q: %d", src, e)
		}
		if again, e := lex.Text(x); again != src || e != api.OK {
			t.Errorf("%.200q: %.200q, %d", src, again, e)
		}
	}
}

// P9.3: the text of more than 32768 signs is too long for Lex.
func TestLexOfLongText(t *testing.T) {
	l := slices.Repeat([]api.Token{sign(";")}, mostBytes/2+1)
	for n, want := range map[int]api.Errno{mostBytes / 2: api.OK, mostBytes/2 + 1: api.ErrLimit} {
		src, e := lex.Text(l[:n])
		if e != api.OK || len(src) != 2*n-1 {
			t.Fatal(len(src), e)
		}
		if x, at, e := lex.Lex(src); e != want || at != 0 || lex.Same(x, l[:n]) != (want == api.OK) {
			t.Error(n, len(x), at, e)
		}
	}
}

// P9.3: places are strictly increasing, and at each of them the text of the token stands.
func TestPlaces(t *testing.T) {
	for _, src := range sources(5000, 3) {
		l, _, _ := lex.Lex(src)
		end := 0
		for _, x := range l {
			s := x.Text
			if x.Kind == api.NumberT {
				s = strconv.Itoa(x.N)
			}
			if x.At < end || !strings.HasPrefix(src[x.At:], s) {
				t.Errorf("%.200q: %v", src, x)
			}
			end = x.At + len(s)
		}
	}
}

// P9.3: the tokens of two sources with a line feed between them, also where the first one ends with a comment.
func TestTokensOfTwoSources(t *testing.T) {
	l := append(sources(300, 4), "", "a", "12", "a // b", "//", "/", "/ /", "//\n")
	for i, a := range l {
		x, _, e := lex.Lex(a)
		if e != api.OK {
			continue
		}
		for _, b := range []string{l[len(l)-1-i], l[i/2], "", "7", "/", "// c", "_"} {
			src := a + "\n" + b
			y, at, f := lex.Lex(b)
			if f != api.OK {
				expectLexed(t, src, nil, len(a)+1+at, f)
				continue
			}
			both := slices.Clone(x)
			for _, z := range y {
				z.At += len(a) + 1
				both = append(both, z)
			}
			expectLexed(t, src, both, 0, api.OK)
		}
	}
}

// P9.3: two sources of which each has tokens may be too long together.
func TestTwoLongSources(t *testing.T) {
	a := strings.Repeat("; ", mostBytes/4)
	expectLexed(t, a+"\n"+a, nil, 0, api.ErrLimit)
	expectAsDefined(t, a+"\n"+a[1:])
}

// P9.3: white space and comments have no tokens, whatever is between two tokens and around them.
func TestSpaceHasNoTokens(t *testing.T) {
	source := rand.New(rand.NewSource(5))
	spaces := []string{" ", "\t", "\n", "\r", "\r\n", "   ", "//\n", " // a $ \xff\n", "\n//;\n//1\n", "///\r_\n", "//\n\n"}
	for _, l := range lists(1000, 6) {
		var b strings.Builder
		for _, x := range l {
			for range 1 + source.Intn(3) {
				b.WriteString(spaces[source.Intn(len(spaces))])
			}
			s, _ := lex.Text([]api.Token{x})
			b.WriteString(s)
			if s == "/" {
				b.WriteByte(' ') // otherwise it begins the comment that may follow
			}
		}
		b.WriteString([]string{"", " ", "//", "\n// b"}[source.Intn(4)])
		if src := b.String(); len(src) <= mostBytes {
			if x, at, e := lex.Lex(src); e != api.OK || at != 0 || !lex.Same(x, l) {
				t.Fatalf("%.200q: %d, %d", src, at, e)
			}
		}
	}
	for _, src := range texts(4, spaces...) {
		expectLexed(t, src, nil, 0, api.OK)
	}
}

// P9.3: the source before the place of an error has tokens; what comes after the wrong token does not matter.
func TestSourceBeforeError(t *testing.T) {
	for _, src := range sources(5000, 7) {
		_, at, e := lex.Lex(src)
		if e == api.OK {
			continue
		}
		before, place, f := lex.Lex(src[:at])
		if e != api.ErrText || place != 0 || f != api.OK || len(before) > 0 && before[len(before)-1].At >= at {
			t.Errorf("%.200q: %d, %d, %d, %d", src, at, e, place, f)
		}
		expectLexed(t, src+" a // $", nil, at, api.ErrText)
	}
}
