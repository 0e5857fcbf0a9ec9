package stamps_test

import (
	"math"
	"math/rand"
	"slices"
	"testing"

	"sizar/api"
	"sizar/stamps"
)

// P8.4: of two stamps, exactly one comes first unless they are equal, and the order has no cycles, for all stamps.
func TestOrderIsTotal(t *testing.T) {
	l := all(math.MinInt, -1, 1, 2, math.MaxInt)
	for _, a := range l {
		for _, b := range l {
			n := stamps.Compare(a, b)
			if n != -stamps.Compare(b, a) || n < -1 || n > 1 || (n == 0) != (a == b) {
				t.Error(a, b, n)
			}
			for _, c := range l {
				if n <= 0 && stamps.Compare(b, c) <= 0 && stamps.Compare(a, c) > 0 {
					t.Fatal(a, b, c)
				}
			}
		}
	}
}

// P8.4: times of knowledge are in the order of the stamps, and tell their Time and Campus.
func TestOrderOfTimesOfKnowledge(t *testing.T) {
	source := rand.New(rand.NewSource(3))
	l := []api.Stamp{stamp(1, 0, 1), stamp(1, 6, mostNo), stamp(2, 0, 1), stamp(mostTime, 0, 1), stamp(mostTime, 6, mostNo), stamp(mostTime-1, 6, mostNo)}
	for range 400 {
		l = append(l, random(source))
	}
	for _, a := range l {
		for _, b := range l {
			x, e := stamps.Known(a)
			y, f := stamps.Known(b)
			if e != api.OK || f != api.OK {
				t.Fatal(a, b, e, f)
			}
			if x < y && stamps.Compare(a, b) != -1 || x > y && stamps.Compare(a, b) != 1 {
				t.Error(a, b, x, y)
			}
			if x == y && (a.Time != b.Time || a.Campus != b.Campus) {
				t.Error(a, b, x)
			}
		}
	}
}

// P8.4: what Next returns is a valid stamp that comes after last, and is known later than every stamp of a time that was seen.
func TestNextComesAfter(t *testing.T) {
	source := rand.New(rand.NewSource(4))
	for range 20000 {
		last, seen := random(source), random(source).Time
		if source.Intn(4) == 0 {
			last.Time, last.No = 0, 0
		}
		s, e := stamps.Next(last, seen)
		if e == api.ErrLimit && (max(last.Time, seen) == mostTime || last.No == mostNo) {
			continue
		}
		if e != api.OK || stamps.Check(s) != api.OK || stamps.Compare(last, s) != -1 {
			t.Fatal(last, seen, s, e)
		}
		known, _ := stamps.Known(s)
		for _, campus := range []int{0, source.Intn(mostCampus + 1), mostCampus} {
			for _, time := range []int{1, 1 + source.Intn(seen), seen} {
				if earlier, e := stamps.Known(stamp(time, campus, 1+source.Intn(mostNo))); e != api.OK || earlier >= known {
					t.Fatal(last, seen, s, time, campus)
				}
			}
		}
	}
}

// P8.4: the stamps of campuses that hear of each other now and then are a valid list for each campus, and all of them differ.
func TestCampusesThatTalk(t *testing.T) {
	source := rand.New(rand.NewSource(5))
	var last [mostCampus + 1]api.Stamp
	var of [mostCampus + 1][]api.Stamp
	var everything []api.Stamp
	for campus := range last {
		last[campus].Campus = campus
	}
	for range 1000 {
		campus, other := source.Intn(len(last)), source.Intn(len(last))
		s, e := stamps.Next(last[campus], last[other].Time)
		if e != api.OK {
			t.Fatal(e)
		}
		last[campus], of[campus], everything = s, append(of[campus], s), append(everything, s)
	}
	var l []api.Stamp
	for campus, part := range of {
		if !isList(part) || len(part) != last[campus].No {
			t.Error(campus, part)
		}
		x, e := stamps.Merge(l, part)
		if e != api.OK || len(x) != len(l)+len(part) {
			t.Error(campus, len(x), e)
		}
		l = x
	}
	if !slices.Equal(l, list(everything...)) {
		t.Error(len(l), len(everything))
	}
}

// P8.4: Merge is commutative, also in its errors.
func TestMergeIsCommutative(t *testing.T) {
	l := append(lists(100, 6), invalid()...)
	for _, a := range l {
		for _, b := range l {
			x, e := stamps.Merge(a, b)
			if y, f := stamps.Merge(b, a); !slices.Equal(x, y) || e != f {
				t.Error(a, b, x, y, e, f)
			}
		}
	}
}

// P8.4: Merge is associative.
func TestMergeIsAssociative(t *testing.T) {
	merge := func(a, b []api.Stamp) []api.Stamp {
		l, e := stamps.Merge(a, b)
		if e != api.OK {
			t.Fatal(a, b, e)
		}
		return l
	}
	l := append(lists(30, 7), subsets(stamp(1, 0, 1), stamp(1, 0, 2), stamp(2, 0, 1), stamp(2, 1, 1))...)
	for _, a := range l {
		for _, b := range l {
			left := merge(a, b)
			for _, c := range l {
				if !slices.Equal(merge(left, c), merge(a, merge(b, c))) {
					t.Error(a, b, c)
				}
			}
		}
	}
}

// P8.4: Merge is idempotent: merging a list with itself, or again with a part of it, adds nothing.
func TestMergeIsIdempotent(t *testing.T) {
	l := lists(200, 8)
	for i, a := range l {
		expectMerged(t, a, a, a, api.OK)
		b := l[len(l)-1-i]
		both := list(slices.Concat(a, b)...)
		expectMerged(t, both, a, both, api.OK)
		expectMerged(t, b, both, both, api.OK)
		expectMerged(t, both, both, both, api.OK)
	}
}
