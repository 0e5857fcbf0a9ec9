package stamps_test

import (
	"math"
	"testing"

	"sizar/api"
	"sizar/stamps"
)

func expectNext(t *testing.T, last api.Stamp, seen int, want api.Stamp, wantE api.Errno) {
	t.Helper()
	if s, e := stamps.Next(last, seen); s != want || e != wantE {
		t.Error("Next", last, seen, "is", s, e, "instead of", want, wantE)
	}
}

// P8.3: the chapter's examples, and the greater one of both times.
func TestNextExamples(t *testing.T) {
	expectNext(t, stamp(0, 2, 0), 0, stamp(1, 2, 1), api.OK)
	expectNext(t, stamp(1<<20, 0, 3), 0, api.Stamp{}, api.ErrLimit)
	expectNext(t, stamp(4, 2, 3), 0, stamp(5, 2, 4), api.OK)
	expectNext(t, stamp(4, 2, 3), 3, stamp(5, 2, 4), api.OK)
	expectNext(t, stamp(4, 2, 3), 4, stamp(5, 2, 4), api.OK)
	expectNext(t, stamp(4, 2, 3), 5, stamp(6, 2, 4), api.OK)
	expectNext(t, stamp(0, 6, 0), 9, stamp(10, 6, 1), api.OK)
	expectNext(t, stamp(0, 0, 7), 0, stamp(1, 0, 8), api.OK)
	expectNext(t, stamp(7, 0, 0), 0, stamp(8, 0, 1), api.OK)
	expectNext(t, api.Stamp{}, 0, stamp(1, 0, 1), api.OK)
}

// P8.3: the last stamp that there is, and what would come after it.
func TestNextLimits(t *testing.T) {
	const most = 1 << 20
	expectNext(t, stamp(most-1, 6, most-1), most-1, stamp(most, 6, most), api.OK)
	expectNext(t, stamp(0, 6, 0), most-1, stamp(most, 6, 1), api.OK)
	expectNext(t, stamp(0, 6, most-1), 0, stamp(1, 6, most), api.OK)
	expectNext(t, stamp(0, 6, 0), most, api.Stamp{}, api.ErrLimit)
	expectNext(t, stamp(0, 6, most), 0, api.Stamp{}, api.ErrLimit)
	expectNext(t, stamp(most, 6, most), most, api.Stamp{}, api.ErrLimit)
}

// P8.3: arguments of which one is not valid are refused, also where a limit is reached.
func TestNextRefuses(t *testing.T) {
	const most = 1 << 20
	for _, x := range []struct {
		last api.Stamp
		seen int
	}{
		{stamp(3, 7, 3), 0}, {stamp(3, -1, 3), 0}, {stamp(-1, 0, 3), 0}, {stamp(3, 0, -1), 0}, {stamp(3, 0, 3), -1},
		{stamp(most+1, 0, 3), 0}, {stamp(3, 0, most+1), 0}, {stamp(3, 0, 3), most + 1},
		{stamp(most, 7, 3), 0}, {stamp(3, 7, most), 0}, {stamp(3, -1, 3), most}, {stamp(most, 0, 3), -1}, {stamp(3, 0, most), -1}, {stamp(-1, 0, 3), most}, {stamp(-1, 0, most), 0}, {stamp(most, 0, -1), 0}, {stamp(3, 0, -1), most}, {stamp(most, 0, most+1), most}, {stamp(most+1, 0, most), most},
		{stamp(math.MaxInt, 0, 3), 0}, {stamp(math.MinInt, 0, 3), 5}, {stamp(3, 0, 3), math.MaxInt}, {stamp(3, 0, math.MaxInt), 0},
	} {
		expectNext(t, x.last, x.seen, api.Stamp{}, api.ErrStamp)
	}
}

// P8.3: Next of all numbers at borders.
func TestNextOfAll(t *testing.T) {
	isTime := func(n int) bool { return n >= 0 && n <= mostTime }
	for _, last := range all(numbers()...) {
		for _, seen := range numbers() {
			time := last.Time
			if seen > time {
				time = seen
			}
			switch {
			case !isTime(last.Time) || !isTime(seen) || !isTime(last.No) || last.Campus < 0 || last.Campus > mostCampus:
				expectNext(t, last, seen, api.Stamp{}, api.ErrStamp)
			case time == mostTime || last.No == mostNo:
				expectNext(t, last, seen, api.Stamp{}, api.ErrLimit)
			default:
				expectNext(t, last, seen, stamp(time+1, last.Campus, last.No+1), api.OK)
			}
		}
	}
}
