package stamps_test

import (
	"math"
	"testing"

	"sizar/api"
	"sizar/stamps"
)

func expectChecked(t *testing.T, s api.Stamp, want api.Errno) {
	t.Helper()
	if e := stamps.Check(s); e != want {
		t.Error("Check", s, "is", e, "instead of", want)
	}
}

// P8.1: the chapter's examples.
func TestCheckExamples(t *testing.T) {
	expectChecked(t, stamp(0, 0, 1), api.ErrStamp)
	expectChecked(t, stamp(1, 7, 1), api.ErrStamp)
	expectChecked(t, stamp(1, 0, 0), api.ErrStamp)
	expectChecked(t, stamp(1, 0, 1), api.OK)
	expectChecked(t, stamp(1<<20, 6, 1<<20), api.OK)
	expectChecked(t, api.Stamp{}, api.ErrStamp)
}

// P8.1: each part of a stamp at its borders, with the other ones valid.
func TestCheckBorders(t *testing.T) {
	for _, n := range numbers() {
		ofTimeAndNo, ofCampus := api.ErrStamp, api.ErrStamp
		if n >= 1 && n <= 1<<20 {
			ofTimeAndNo = api.OK
		}
		if n >= 0 && n <= 6 {
			ofCampus = api.OK
		}
		expectChecked(t, stamp(n, 3, 5), ofTimeAndNo)
		expectChecked(t, stamp(5, n, 5), ofCampus)
		expectChecked(t, stamp(5, 3, n), ofTimeAndNo)
	}
}

// P8.1: Check of stamps with all numbers at borders, several of which may be wrong.
func TestCheckOfAll(t *testing.T) {
	for _, s := range all(numbers()...) {
		want := api.ErrStamp
		if isValid(s) {
			want = api.OK
		}
		expectChecked(t, s, want)
	}
}

func expectCompared(t *testing.T, a, b api.Stamp, want int) {
	t.Helper()
	if n := stamps.Compare(a, b); n != want {
		t.Error("Compare", a, b, "is", n, "instead of", want)
	}
}

// P8.1: the chapter's example, and each part where it decides.
func TestCompareExamples(t *testing.T) {
	for _, x := range []struct{ a, b api.Stamp }{
		{stamp(3, 0, 9), stamp(3, 1, 1)},
		{stamp(1, 6, 9), stamp(2, 0, 1)},
		{stamp(2, 3, 4), stamp(2, 3, 5)},
		{stamp(2, 3, 9), stamp(2, 4, 1)},
		{stamp(2, 9, 1), stamp(10, 1, 1)},
	} {
		expectCompared(t, x.a, x.b, -1)
		expectCompared(t, x.b, x.a, 1)
		expectCompared(t, x.a, x.a, 0)
		expectCompared(t, x.b, x.b, 0)
	}
}

// P8.1: all pairs of stamps, valid or not; also numbers so far apart that their difference is no int.
func TestCompareOfAll(t *testing.T) {
	l := all(math.MinInt, -1, 0, 1, 7, math.MaxInt)
	for _, a := range l {
		for _, b := range l {
			expectCompared(t, a, b, compared(a, b))
		}
	}
}
