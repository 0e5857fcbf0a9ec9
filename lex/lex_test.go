package lex_test

import (
	"strings"
	"testing"

	"sizar/api"
	"sizar/lex"
)

// at gives a token a place.
func at(place int, t api.Token) api.Token {
	t.At = place
	return t
}

// P9.1: the chapter's examples.
func TestLexExamples(t *testing.T) {
	expectLexed(t, "", nil, 0, api.OK)
	expectLexed(t, "007", nil, 0, api.ErrText)
	expectLexed(t, "1099511627776", []api.Token{number(1 << 40)}, 0, api.OK)
	expectLexed(t, "a // b", []api.Token{name("a")}, 0, api.OK)
	expectLexed(t, "a $", nil, 2, api.ErrText)
	expectLexed(t, "earn 30;", []api.Token{name("earn"), at(5, number(30)), at(7, sign(";"))}, 0, api.OK)
}

// P9.1: a token ends where another one can begin, without white space between them.
func TestTokensThatTouch(t *testing.T) {
	expectLexed(t, "12ab", []api.Token{number(12), at(2, name("ab"))}, 0, api.OK)
	expectLexed(t, "ab12_9_", []api.Token{name("ab12_9_")}, 0, api.OK)
	expectLexed(t, "a-1", []api.Token{name("a"), at(1, sign("-")), at(2, number(1))}, 0, api.OK)
	expectLexed(t, "1.50", []api.Token{number(1), at(1, sign(".")), at(2, number(50))}, 0, api.OK)
	expectLexed(t, "a<=b!=#3", []api.Token{name("a"), at(1, sign("<")), at(2, sign("=")), at(3, name("b")), at(4, sign("!")), at(5, sign("=")), at(6, sign("#")), at(7, number(3))}, 0, api.OK)
	expectLexed(t, "0x1", []api.Token{number(0), at(1, name("x1"))}, 0, api.OK)
	expectLexed(t, "1_", nil, 1, api.ErrText)
}

// P9.1: what each byte is by itself.
func TestEachByte(t *testing.T) {
	for b := range 256 {
		s := string([]byte{byte(b)})
		switch {
		case strings.Contains(" \t\n\r", s):
			expectLexed(t, s, nil, 0, api.OK)
		case b >= 'A' && b <= 'Z' || b >= 'a' && b <= 'z':
			expectLexed(t, s, []api.Token{name(s)}, 0, api.OK)
		case b >= '0' && b <= '9':
			expectLexed(t, s, []api.Token{number(b - '0')}, 0, api.OK)
		case strings.Contains(signs, s):
			expectLexed(t, s, []api.Token{sign(s)}, 0, api.OK)
		default:
			expectLexed(t, s, nil, 0, api.ErrText)
		}
	}
}

// P9.1: each byte before and after each other one, also before and after a name.
func TestEachPairOfBytes(t *testing.T) {
	for a := range 256 {
		for b := range 256 {
			expectAsDefined(t, string([]byte{byte(a), byte(b)}))
			expectAsDefined(t, string([]byte{'x', byte(a), 'y', byte(b), '7', byte(a)}))
		}
	}
}

// P9.1: all short sources of bytes of each class.
func TestShortSources(t *testing.T) {
	for _, src := range texts(6, "a", "0", "1", "_", ";", "/", " ", "\n", "$") {
		expectAsDefined(t, src)
	}
}

// P9.1: longer sources of all kinds.
func TestLongSources(t *testing.T) {
	var right int
	for _, src := range sources(20000, 1) {
		expectAsDefined(t, src)
		if _, _, e := lex.Lex(src); e == api.OK {
			right++
		}
	}
	if right < 5000 || right > 15000 {
		t.Error(right)
	}
}

// P9.1: names of at most 32 bytes; the place of an error is where the name begins.
func TestLongNames(t *testing.T) {
	for n := 1; n < 100; n++ {
		for _, s := range []string{strings.Repeat("x", n), "Q" + strings.Repeat("_", n-1), "q" + strings.Repeat("7", n-1)} {
			if n > 32 {
				expectLexed(t, s, nil, 0, api.ErrText)
				expectLexed(t, "; "+s+" $", nil, 2, api.ErrText)
			} else {
				expectLexed(t, s, []api.Token{name(s)}, 0, api.OK)
				expectLexed(t, "; "+s+"/1", []api.Token{sign(";"), at(2, name(s)), at(2+n, sign("/")), at(3+n, number(1))}, 0, api.OK)
			}
		}
	}
	expectLexed(t, strings.Repeat("x", 32)+" "+strings.Repeat("y", 32), []api.Token{name(strings.Repeat("x", 32)), at(33, name(strings.Repeat("y", 32)))}, 0, api.OK)
}

// P9.1: numbers of at most 2^40, also greater ones that an int holds only in part.
func TestGreatNumbers(t *testing.T) {
	for s, want := range map[string]int{"0": 0, "7": 7, "10": 10, "100": 100, "999999999999": 999999999999, "1000000000000": 1000000000000, "1099511627775": 1<<40 - 1, "1099511627776": 1 << 40} {
		expectLexed(t, s, []api.Token{number(want)}, 0, api.OK)
		expectLexed(t, " "+s+"a", []api.Token{at(1, number(want)), at(1+len(s), name("a"))}, 0, api.OK)
	}
	for _, s := range []string{
		"1099511627777", "1099511627780", "1100000000000", "2000000000000", "9999999999999", "10000000000000", "10995116277760",
		"4294967296000", "9223372036854775807", "9223372036854775808", "18446744073709551615", "18446744073709551616", "18446744073709551621", "36893488147419103232",
		"340282366920938463463374607431768211456", "1" + strings.Repeat("0", 100), "1" + strings.Repeat("0", 65535), strings.Repeat("9", 65536),
	} {
		expectLexed(t, s, nil, 0, api.ErrText)
		expectAsDefined(t, "a "+s)
	}
}

// P9.1: only a single digit is 0 at the beginning of a number.
func TestLeadingZeros(t *testing.T) {
	for _, s := range []string{"00", "01", "000", "007", "010", "01099511627776", strings.Repeat("0", 65536), "00a"} {
		expectLexed(t, s, nil, 0, api.ErrText)
	}
	expectLexed(t, "a 1 00 $", nil, 4, api.ErrText)
	expectLexed(t, "0 0", []api.Token{number(0), at(2, number(0))}, 0, api.OK)
	expectLexed(t, "0.0", []api.Token{number(0), at(1, sign(".")), at(2, number(0))}, 0, api.OK)
}

// P9.1: comments contain all bytes up to the next line feed or the end, and begin wherever a token may begin.
func TestComments(t *testing.T) {
	for _, src := range []string{"//", "///", "////", "//\n", "//\r", "// a", "// \xff $ \x00 é\n", "//\n//", " // 007\n\t//_\n", "//\r$", "//\v$", "//\u2028$", "// /* \" {"} {
		expectLexed(t, src, nil, 0, api.OK)
	}
	expectLexed(t, "a//b\nc//", []api.Token{name("a"), at(5, name("c"))}, 0, api.OK)
	expectLexed(t, "1//2\n3", []api.Token{number(1), at(5, number(3))}, 0, api.OK)
	expectLexed(t, ";//;\n;", []api.Token{sign(";"), at(5, sign(";"))}, 0, api.OK)
	expectLexed(t, "//\n$", nil, 3, api.ErrText)
	expectLexed(t, "//\r\n\n$", nil, 5, api.ErrText)
	expectLexed(t, "/ /", []api.Token{sign("/"), at(2, sign("/"))}, 0, api.OK)
	expectLexed(t, "/\n/", []api.Token{sign("/"), at(2, sign("/"))}, 0, api.OK)
	expectLexed(t, "/ //a", []api.Token{sign("/")}, 0, api.OK)
	expectLexed(t, "1/2/", []api.Token{number(1), at(1, sign("/")), at(2, number(2)), at(3, sign("/"))}, 0, api.OK)
	expectLexed(t, "/*", nil, 1, api.ErrText)
}

// P9.1: the first token that is wrong counts, whatever comes after it.
func TestFirstError(t *testing.T) {
	for _, first := range wrong() {
		expectLexed(t, first, nil, 0, api.ErrText)
		for _, second := range wrong() {
			expectLexed(t, "a 1;\n"+first+" b "+second, nil, 5, api.ErrText)
		}
	}
}

// P9.1: sources of at most 65536 bytes, whatever they contain.
func TestLongestSources(t *testing.T) {
	for _, s := range []string{" ", ";", "a ", "1\n", "x", "9", "0", "_", "$", "/", "/ ", "// \n", "// a\nb"} {
		src := strings.Repeat(s, mostBytes)
		expectAsDefined(t, src[:mostBytes-1])
		expectAsDefined(t, src[:mostBytes])
		expectLexed(t, src[:mostBytes]+" ", nil, 0, api.ErrLimit)
		expectLexed(t, src[:mostBytes]+"$", nil, 0, api.ErrLimit)
	}
	spaces := strings.Repeat(" ", mostBytes-1)
	expectLexed(t, spaces+"$", nil, mostBytes-1, api.ErrText)
	expectLexed(t, spaces+"a", []api.Token{at(mostBytes-1, name("a"))}, 0, api.OK)
	expectLexed(t, "$"+spaces, nil, 0, api.ErrText)
	expectLexed(t, "$"+spaces+" ", nil, 0, api.ErrLimit)
}

// FuzzLex looks for sources whose tokens are not as defined.
func FuzzLex(f *testing.F) {
	for _, s := range append(pieces(), wrong()...) {
		f.Add(s)
	}
	f.Fuzz(func(t *testing.T, src string) {
		expectAsDefined(t, src)
	})
}
