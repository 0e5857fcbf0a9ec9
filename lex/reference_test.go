package lex_test

import (
	"fmt"
	"math/big"
	"math/rand"
	"regexp"
	"slices"
	"strings"
	"testing"

	"sizar/api"
	"sizar/lex"
)

// What follows is the chapter's definitions, without package lex.

const (
	mostBytes = 65536
	mostName  = 32
	signs     = "{}();,=#/<!-."
)

var (
	mostNumber = big.NewInt(1099511627776)
	passedForm = regexp.MustCompile(`^(?:[ \t\n\r]|//[^\n]*)*`)
	nameForm   = regexp.MustCompile(`^[A-Za-z][0-9A-Za-z_]*`)
	digitsForm = regexp.MustCompile(`^[0-9]+`)
)

// name, number and sign return tokens at the place 0.
func name(s string) api.Token { return api.Token{Kind: api.NameT, Text: s} }
func number(n int) api.Token  { return api.Token{Kind: api.NumberT, N: n} }
func sign(s string) api.Token { return api.Token{Kind: api.SignT, Text: s} }

// token returns the token at the beginning of a source, without its place, and its length.
func token(src string) (t api.Token, n int, ok bool) {
	if s := nameForm.FindString(src); s != "" {
		return name(s), len(s), len(s) <= mostName
	}
	if s := digitsForm.FindString(src); s != "" {
		x, _ := new(big.Int).SetString(s, 10)
		return number(int(x.Int64())), len(s), x.Cmp(mostNumber) <= 0 && x.String() == s
	}
	return sign(src[:1]), 1, strings.Contains(signs, src[:1])
}

// tokens returns what Lex must return.
func tokens(src string) (l []api.Token, at int, e api.Errno) {
	if len(src) > mostBytes {
		return nil, 0, api.ErrLimit
	}
	for {
		at += len(passedForm.FindString(src[at:]))
		if at == len(src) {
			return l, 0, api.OK
		}
		t, n, ok := token(src[at:])
		if !ok {
			return nil, at, api.ErrText
		}
		t.At = at
		l, at = append(l, t), at+n
	}
}

func isName(s string) bool {
	return len(s) <= mostName && s != "" && nameForm.FindString(s) == s
}

// shown returns the beginning of a list of tokens for the messages of tests.
func shown(l []api.Token) string {
	s := fmt.Sprintf("%d tokens", len(l))
	for _, x := range l[:min(len(l), 8)] {
		s += fmt.Sprintf(" {%d %q %d at %d}", x.Kind, x.Text, x.N, x.At)
	}
	return s
}

func expectLexed(t *testing.T, src string, want []api.Token, wantAt int, wantE api.Errno) {
	t.Helper()
	if l, at, e := lex.Lex(src); !slices.Equal(l, want) || at != wantAt || e != wantE {
		t.Errorf("Lex of %.60q (%d bytes) is %s, %d, %d instead of %s, %d, %d", src, len(src), shown(l), at, e, shown(want), wantAt, wantE)
	}
}

// expectAsDefined compares Lex with the definitions. It ends the test at the first difference, since it is called for very many sources.
func expectAsDefined(t *testing.T, src string) {
	t.Helper()
	l, at, e := tokens(src)
	expectLexed(t, src, l, at, e)
	if t.Failed() {
		t.FailNow()
	}
}

// texts returns all strings of up to n of these pieces.
func texts(n int, of ...string) (l []string) {
	l = []string{""}
	for last := l; n > 0; n-- {
		var next []string
		for _, s := range last {
			for _, x := range of {
				next = append(next, s+x)
			}
		}
		l, last = append(l, next...), next
	}
	return l
}

// pieces are what sources are made of: tokens, white space, comments, and a few things that no source may contain.
func pieces() []string {
	return []string{
		"a", "Z", "_", "B_12", "earn", "x" + strings.Repeat("y", 29), "0", "1", "9", "30", "1099511627775", "1099511627776", "1",
		"{", "}", "(", ")", ";", ",", "=", "#", "/", "<", "!", "-", ".", " / ", ";\n",
		" ", "  ", "\t", "\n", "\r", "\r\n", " ", "\n", "//", "// b $ \xff\n", "///\n", "// a\r_\n", "//\n",
	}
}

// wrong are pieces that a source may not contain, but for some of them behind other ones.
func wrong() []string {
	return []string{"$", "\"", "\x00", "\v", "\f", "\x80", "\xff", "é", "\u00a0", "00", "007", "_a", "1099511627777", "18446744073709551616", strings.Repeat("z", 33)}
}

// sources returns sources of some pieces, of which about half are wrong somewhere.
func sources(n int, seed int64) (l []string) {
	source := rand.New(rand.NewSource(seed))
	right, wrong := pieces(), wrong()
	for range n {
		var b strings.Builder
		spaced := source.Intn(2) == 0
		for range source.Intn(1 + 1<<source.Intn(6)) {
			b.WriteString(right[source.Intn(len(right))])
			if spaced {
				b.WriteByte(' ')
			}
			if source.Intn(12) == 0 {
				b.WriteString(wrong[source.Intn(len(wrong))])
			}
		}
		l = append(l, b.String())
	}
	return l
}

// lists returns lists of valid tokens, with any places.
func lists(n int, seed int64) (l [][]api.Token) {
	source := rand.New(rand.NewSource(seed))
	few := []api.Token{name("a"), name("A_9"), name(strings.Repeat("q", mostName)), number(0), number(1), number(10), number(1<<40 - 1), number(1 << 40)}
	for _, s := range signs {
		few = append(few, sign(string(s)))
	}
	for range n {
		var some []api.Token
		for range source.Intn(1 + 1<<source.Intn(8)) {
			t := few[source.Intn(len(few))]
			if source.Intn(5) == 0 {
				t = number(source.Intn(1<<40 + 1))
			}
			t.At = source.Intn(100) - 50
			some = append(some, t)
		}
		l = append(l, some)
	}
	return l
}
