package lex

import (
	"strconv"
	"strings"

	"sizar/api"
)

const mostNumber = 1 << 40

// place is the index of a byte at which no token begins, or none that is allowed.
type place int

// reader reads a source from its beginning. Its methods read on from the place at, and panic with this place if they cannot; Lex recovers that.
type reader struct {
	src    string
	at     int
	tokens []api.Token
}

// scanners is indexed by the class of the byte at which a method begins to read.
func scanners() [allClasses]func(*reader) {
	return [...]func(*reader){
		other:      (*reader).refuse,
		blank:      (*reader).space,
		letter:     (*reader).name,
		digit:      (*reader).number,
		underscore: (*reader).refuse,
		sign:       (*reader).sign,
		slash:      (*reader).signOrComment,
	}
}

func (r *reader) refuse() {
	panic(place(r.at))
}

func (r *reader) space() {
	r.at += count(r.src[r.at:], blank)
}

func (r *reader) name() {
	text := r.next(letter, digit, underscore)
	if !Name(text) {
		r.refuse()
	}
	r.take(api.Token{Kind: api.NameT, Text: text}, len(text))
}

// number stops at the first digit that makes the number too great, since there may be any number of them.
func (r *reader) number() {
	digits := r.next(digit)
	if digits[0] == '0' && len(digits) > 1 {
		r.refuse()
	}
	n := 0
	for _, d := range []byte(digits) {
		n = 10*n + int(d-'0')
		if n > mostNumber {
			r.refuse()
		}
	}
	r.take(api.Token{Kind: api.NumberT, N: n}, len(digits))
}

func (r *reader) sign() {
	r.take(api.Token{Kind: api.SignT, Text: r.src[r.at : r.at+1]}, 1)
}

func (r *reader) signOrComment() {
	rest := r.src[r.at:]
	if !strings.HasPrefix(rest, "//") {
		r.sign()
		return
	}
	comment, _, _ := strings.Cut(rest, "\n")
	r.at += len(comment)
}

// next returns the bytes of these classes that follow.
func (r *reader) next(of ...class) string {
	rest := r.src[r.at:]
	return rest[:count(rest, of...)]
}

// take keeps a token of n bytes.
func (r *reader) take(t api.Token, n int) {
	t.At = r.at
	r.tokens = append(r.tokens, t)
	r.at += n
}

// isValid accepts any place: a token may have been made without a source.
func isValid(t api.Token) bool {
	switch t.Kind {
	case api.NameT:
		return Name(t.Text) && t.N == 0
	case api.NumberT:
		return t.Text == "" && t.N >= 0 && t.N <= mostNumber
	case api.SignT:
		return isSign(t.Text) && t.N == 0
	}
	return false
}

func isSign(s string) bool {
	return len(s) == 1 && count(s, sign, slash) == 1
}

// textOf is for valid tokens.
func textOf(t api.Token) string {
	if t.Kind == api.NumberT {
		return strconv.Itoa(t.N)
	}
	return t.Text
}
