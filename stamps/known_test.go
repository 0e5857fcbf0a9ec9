package stamps_test

import (
	"math"
	"testing"

	"sizar/api"
	"sizar/stamps"
)

func expectKnown(t *testing.T, s api.Stamp, want int, wantE api.Errno) {
	t.Helper()
	if known, e := stamps.Known(s); known != want || e != wantE {
		t.Error("Known", s, "is", known, e, "instead of", want, wantE)
	}
}

func expectOf(t *testing.T, known, wantTime, wantCampus int, wantE api.Errno) {
	t.Helper()
	if time, campus, e := stamps.Of(known); time != wantTime || campus != wantCampus || e != wantE {
		t.Error("Of", known, "is", time, campus, e, "instead of", wantTime, wantCampus, wantE)
	}
}

// P8.2: the chapter's examples.
func TestKnownExamples(t *testing.T) {
	expectKnown(t, stamp(3, 1, 5), 25, api.OK)
	expectKnown(t, stamp(1, 0, 1), 8, api.OK)
	expectKnown(t, stamp(1<<20, 6, 1<<20), 8388614, api.OK)
	expectOf(t, 25, 3, 1, api.OK)
	expectOf(t, 8, 1, 0, api.OK)
	expectOf(t, 8388614, 1<<20, 6, api.OK)
	expectOf(t, 31, 0, 0, api.ErrStamp)
	expectOf(t, 7, 0, 0, api.ErrStamp)
	expectOf(t, 15, 0, 0, api.ErrStamp)
}

// P8.2: Known of stamps with all numbers at borders; the number of the entry does not matter, if it is valid.
func TestKnownOfAll(t *testing.T) {
	for _, s := range all(append(numbers(), 3, 4, 511, 1<<19)...) {
		if isValid(s) {
			expectKnown(t, s, 8*s.Time+s.Campus, api.OK)
		} else {
			expectKnown(t, s, 0, api.ErrStamp)
		}
	}
}

// P8.2: Of every time of knowledge, and of all numbers between and around them, up to the limit of times of knowledge.
func TestOfAll(t *testing.T) {
	known := -100
	refused := func(before int) {
		for ; known < before; known++ {
			expectOf(t, known, 0, 0, api.ErrStamp)
		}
	}
	for time := 1; time <= mostTime && !t.Failed(); time++ {
		for campus := range mostCampus + 1 {
			refused(8*time + campus)
			expectKnown(t, stamp(time, campus, 1+time%mostNo), known, api.OK)
			expectOf(t, known, time, campus, api.OK)
			known++
		}
	}
	if known != mostKnown+1 {
		t.Error(known)
	}
	refused(mostKnown + 1000)
}

// P8.2: numbers that are far from all times of knowledge, also where they would be one with fewer bits.
func TestOfFar(t *testing.T) {
	for _, n := range []int{math.MinInt, math.MinInt + 8, math.MinInt + 25, -1 << 32, -8388614, -31, -25, -9, -8, -1, 0, 1 << 24, 1<<24 - 8, 1<<24 + 25, 1<<32 + 25, 1 << 62, 1<<62 + 25, math.MaxInt - 7, math.MaxInt - 1, math.MaxInt} {
		expectOf(t, n, 0, 0, api.ErrStamp)
	}
}
