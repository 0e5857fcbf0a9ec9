package codec_test

import (
	"bytes"
	"math/rand"
	"slices"
	"testing"

	"sizar/api"
	"sizar/codec"
)

// many returns the samples and random values.
func many() []api.Value {
	l := samples()
	r := rand.New(rand.NewSource(1))
	for range 3000 {
		l = append(l, random(r, 5))
	}
	return l
}

// P1.4: Decode of Encode is the value itself, and Encode of Decode are the bytes.
func TestThereAndBack(t *testing.T) {
	for _, v := range many() {
		b, e := codec.Encode(v)
		x, f := codec.Decode(b)
		c, g := codec.Encode(x)
		if e != api.OK || f != api.OK || g != api.OK || !codec.Same(v, x) || !bytes.Equal(b, c) {
			t.Errorf("%v: %q, %d, %v, %d, %q, %d", v, b, e, x, f, c, g)
		}
	}
}

// P1.4: the encodings of different values are different, and none is the beginning of another one.
func TestNoBeginning(t *testing.T) {
	var l [][]byte
	for _, v := range many() {
		b, _ := codec.Encode(v)
		l = append(l, b)
		for n := range min(len(b), 300) {
			if _, e := codec.Decode(b[:n]); e != api.ErrCode {
				t.Errorf("%q: %d", b[:n], e)
			}
		}
	}
	slices.SortFunc(l, bytes.Compare)
	l = slices.CompactFunc(l, bytes.Equal)
	for i := 1; i < len(l); i++ {
		if bytes.HasPrefix(l[i], l[i-1]) {
			t.Errorf("%q, %q", l[i-1], l[i])
		}
	}
	given := samples()
	for i, v := range given {
		for k, x := range given[:i] {
			b, _ := codec.Encode(v)
			c, _ := codec.Encode(x)
			if bytes.HasPrefix(b, c) || bytes.HasPrefix(c, b) {
				t.Error(i, k)
			}
		}
	}
}

// P1.4: a list is as long as one of as many zeros, without these, and its elements together.
func TestSizeOfLists(t *testing.T) {
	r := rand.New(rand.NewSource(2))
	for _, count := range []int{0, 1, 2, 126, 127, 128, 129, 300, 16383, 16384} {
		want, e := codec.Size(zeros(count))
		v := list()
		for range count {
			x := random(r, 2)
			n, f := codec.Size(x)
			zero, g := codec.Size(number(0))
			if f != api.OK || g != api.OK {
				t.Fatal(x, f, g)
			}
			want += n - zero
			v.L = append(v.L, x)
		}
		if n, f := codec.Size(v); e != api.OK || f != api.OK || n != want {
			t.Errorf("%d elements: %d instead of %d", count, n, want)
		}
	}
}
