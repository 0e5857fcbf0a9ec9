package codec_test

import (
	"bytes"
	"math"
	"strings"
	"testing"

	"sizar/api"
	"sizar/codec"
)

// P1.2: values that come back from bytes.
func TestDecode(t *testing.T) {
	for b, want := range map[string]api.Value{
		"\x01\x00":         number(0),
		"\x01\x05":         number(-3),
		"\x01\xc8\x01":     number(100),
		"\x01\x80\x80\x01": number(8192),
		"\x01\xfe" + strings.Repeat("\xff", 8) + "\x01": number(math.MaxInt),
		"\x01" + strings.Repeat("\xff", 9) + "\x01":     number(math.MinInt),
		"\x02\x00":                       text(""),
		"\x02\x01\x80":                   text("\x80"),
		"\x03\x00":                       list(),
		"\x03\x02\x01\xc8\x01\x02\x02ab": list(number(100), text("ab")),
		strings.Repeat("\x03\x01", 15) + "\x03\x00": nested(15, list()),
	} {
		if v, e := codec.Decode([]byte(b)); e != api.OK || !codec.Same(v, want) {
			t.Errorf("%q: %v, %d", b, v, e)
		}
	}
}

// P1.2: bytes that are the encoding of no value.
func TestDecodeRefuses(t *testing.T) {
	nines := strings.Repeat("\xff", 9)
	for _, b := range []string{
		"", "\x00", "\x04\x00", "\xff\x00", // no kind
		"\x01", "\x02", "\x03", "\x01\x80", "\x01" + nines, // the numeral ends early
		"\x01\x80\x00", "\x01\xff\x00", "\x01\xc8\x81\x00", "\x02\x80\x00", "\x03\x80\x00", // a superfluous digit
		"\x01" + nines + "\x02", "\x01" + nines + "\x7f", "\x01" + nines + "\x81\x00", // more than 64 bits
		"\x01" + nines + "\x81\x01", "\x01" + strings.Repeat("\x80", 70) + "\x01",
		"\x01\x05\x00", "\x02\x00\x00", "\x03\x00\x01\x00", // bytes behind the value
		"\x02\x01", "\x02\x03a", "\x02" + nines + "\x01", "\x02\x80\x80\x80\x80\x08a", // the text ends early
		"\x03\x01", "\x03\x02\x01\x00", "\x03\x01\x05", "\x03" + nines + "\x01", "\x03" + nines + "\x01\x01\x00", // the list ends early
		strings.Repeat("\x03\x01", 16) + "\x03\x00",                // too deep
		strings.Repeat("\x03\x01", 17) + "\x01\x00",                // too deep
		strings.Repeat("\x03\x01", 1<<20),                          // much too deep
		strings.Repeat("\x03\x80\x80\x80\x80\x80\x80\x80\x01", 16), // more elements than there are bytes
	} {
		if v, e := codec.Decode([]byte(b)); e != api.ErrCode || !codec.Same(v, api.Value{}) {
			t.Errorf("%.20q: %v, %d", b, v, e)
		}
	}
}

// short returns all encodings of n bytes that have only these bytes, built from the table of the chapter. It is for few bytes only: no number of bytes or elements needs a second digit.
func short(n int, of string) (l []string) {
	for _, s := range texts(n-1, of) {
		if isNumeral(s) {
			l = append(l, "\x01"+s)
		}
	}
	for _, s := range texts(n-2, of) {
		l = append(l, "\x02"+string(rune(n-2))+s)
	}
	for k := range n {
		for _, s := range rows(k, n-2, of) {
			l = append(l, "\x03"+string(rune(k))+s)
		}
	}
	return l
}

func isNumeral(s string) bool {
	for i := range len(s) - 1 {
		if s[i] < 128 {
			return false
		}
	}
	return s == "\x00" || s != "" && s[len(s)-1] > 0 && s[len(s)-1] < 128
}

// texts returns all texts of n of these bytes.
func texts(n int, of string) (l []string) {
	if n == 0 {
		return []string{""}
	}
	if n < 0 {
		return nil
	}
	for _, s := range texts(n-1, of) {
		for i := range len(of) {
			l = append(l, s+of[i:i+1])
		}
	}
	return l
}

// rows returns all rows of k encodings that have n bytes together.
func rows(k, n int, of string) (l []string) {
	if k == 0 {
		if n == 0 {
			l = append(l, "")
		}
		return l
	}
	for first := 2; first <= n; first++ {
		for _, s := range short(first, of) {
			for _, rest := range rows(k-1, n-first, of) {
				l = append(l, s+rest)
			}
		}
	}
	return l
}

// P1.2: of all short texts of some bytes, just the encodings are decoded.
func TestDecodeShort(t *testing.T) {
	const of = "\x00\x01\x02\x03\x04\x80\x81"
	for n := range 7 {
		want := map[string]bool{}
		for _, s := range short(n, of) {
			want[s] = true
		}
		for _, s := range texts(n, of) {
			if _, e := codec.Decode([]byte(s)); (e == api.OK) != want[s] {
				t.Errorf("%q: %d", s, e)
			}
		}
	}
}

// P1.2 and R2: the bytes are not changed, and the value does not change with them.
func TestDecodeIsPure(t *testing.T) {
	b := []byte("\x03\x02\x01\xc8\x01\x02\x02ab")
	c := bytes.Clone(b)
	v, _ := codec.Decode(b)
	if !bytes.Equal(b, c) {
		t.Error(b)
	}
	clear(b)
	if !codec.Same(v, list(number(100), text("ab"))) {
		t.Error(v)
	}
}

// P1.2: bytes have a value just if Encode leads back to them.
func FuzzDecode(f *testing.F) {
	for _, v := range samples() {
		b, _ := codec.Encode(v)
		f.Add(b)
	}
	f.Add([]byte("\x01\x80\x00"))
	f.Add([]byte("\x03\xff\xff\x01"))
	f.Fuzz(func(t *testing.T, b []byte) {
		v, e := codec.Decode(b)
		if e == api.ErrCode && codec.Same(v, api.Value{}) {
			return
		}
		if c, f := codec.Encode(v); e != api.OK || f != api.OK || !bytes.Equal(b, c) {
			t.Errorf("%q: %v, %d, %q, %d", b, v, e, c, f)
		}
	})
}
