package facts_test

import (
	"math"
	"math/rand"
	"slices"
	"testing"

	"sizar/api"
	"sizar/facts"
)

// example is that of the chapter: the value 7 in the terms 2 to 5, and none in the term 3 from 20 on.
func example() []api.Fact {
	return []api.Fact{fact(hold, 7, 2, 6, 10, 0), fact(hold, -1, 3, 4, 20, 0)}
}

// P7.2: the chapter's examples.
func TestAtExamples(t *testing.T) {
	l := example()
	expectAt(t, l, hold, 3, 15, 7, true)
	expectAt(t, l, hold, 3, 20, 0, false)
	expectAt(t, l, hold, 3, 19, 7, true)
	expectAt(t, l, hold, 3, 9, 0, false)
	expectAt(t, l, hold, 3, 10, 7, true)
	expectAt(t, l, hold, 1, 99, 0, false)
	expectAt(t, l, hold, 2, 99, 7, true)
	expectAt(t, l, hold, 5, 99, 7, true)
	expectAt(t, l, hold, 6, 99, 0, false)
	expectAt(t, l, grade, 3, 15, 0, false)
	expectAt(t, nil, hold, 0, 0, 0, false)
	expectPoints(t, l, hold, 5, 5, 99, nil)
	expectPoints(t, l, hold, 0, 1024, 15, []api.Point{{Term: 2, Value: 7}, {Term: 3, Value: 7}, {Term: 4, Value: 7}, {Term: 5, Value: 7}})
	expectPoints(t, l, hold, 0, 1024, 20, []api.Point{{Term: 2, Value: 7}, {Term: 4, Value: 7}, {Term: 5, Value: 7}})
	expectPoints(t, l, hold, 3, 5, 20, []api.Point{{Term: 4, Value: 7}})
	expectPoints(t, l, grade, 0, 1024, 20, nil)
}

// P7.2: which of two facts counts in the term that they share: the one that is known later, then the one with the greater number, then the one that is later in the list.
func TestWhichCounts(t *testing.T) {
	for _, x := range []struct {
		known, no, value int
	}{{6, 5, 2}, {5, 6, 2}, {5, 5, 2}, {5, 4, 1}, {4, 6, 1}, {4, 5, 1}, {6, 0, 2}, {5, math.MinInt, 1}, {5, math.MaxInt, 2}, {math.MinInt, 9, 1}} {
		l := []api.Fact{fact(hold, 1, 0, 5, 5, 5), fact(hold, 2, 4, 9, x.known, x.no)}
		expectAt(t, l, hold, 4, 99, x.value, true)
		expectAt(t, l, hold, 3, 99, 1, true)
		expectAt(t, l, hold, 5, 99, 2, true)
		expectPoints(t, l, hold, 3, 6, 99, []api.Point{{Term: 3, Value: 1}, {Term: 4, Value: x.value}, {Term: 5, Value: 2}})
	}
}

// P7.2: keys are different if one of their parts is.
func TestEveryPartOfKey(t *testing.T) {
	l := []api.Fact{fact(hold, 1, 0, 5, 5, 5)}
	for _, k := range []api.Key{grade, {Kind: api.HoldK, Subject: 3}, {Kind: api.HoldK, Object: 1}, {Kind: api.HoldK, Subject: 1, Object: 3}, {}} {
		expectAt(t, l, k, 3, 9, 0, false)
		expectPoints(t, l, k, 0, 9, 9, nil)
	}
	expectAt(t, []api.Fact{fact(api.Key{}, 1, 0, 5, 5, 5)}, api.Key{}, 3, 9, 1, true)
}

// P7.2: values of less than -1 are none, 0 and greater ones than those of valid facts are values, and facts without a value hide those before them.
func TestValuesOfAll(t *testing.T) {
	for _, value := range []int{math.MinInt, -3, -2, -1, 0, 1, mostValue, mostValue + 1, math.MaxInt} {
		l := []api.Fact{fact(hold, 5, 0, 5, 5, 5), fact(hold, value, 2, 3, 6, 0)}
		want := []api.Point{{Term: 1, Value: 5}}
		if value >= 0 {
			expectAt(t, l, hold, 2, 9, value, true)
			want = append(want, api.Point{Term: 2, Value: value})
		} else {
			expectAt(t, l, hold, 2, 9, 0, false)
		}
		expectPoints(t, l, hold, 1, 4, 9, append(want, api.Point{Term: 3, Value: 5}))
	}
}

// P7.2: At looks at the boundaries of facts that are not valid as at those of others, and at times of knowledge that are none.
func TestAtAcceptsAll(t *testing.T) {
	l := []api.Fact{fact(hold, 5, -9, 4, math.MinInt, 5), fact(hold, 6, 1020, math.MaxInt, -3, 0), fact(hold, 7, 9, 9, 1, 0), fact(hold, 8, 50, 40, 1, 0)}
	expectAt(t, l, hold, -10, 0, 0, false)
	expectAt(t, l, hold, -9, 0, 5, true)
	expectAt(t, l, hold, 3, math.MinInt, 5, true)
	expectAt(t, l, hold, 4, 0, 0, false)
	expectAt(t, l, hold, 1020, -4, 0, false)
	expectAt(t, l, hold, 1020, -3, 6, true)
	expectAt(t, l, hold, math.MaxInt-1, 0, 6, true)
	expectAt(t, l, hold, math.MaxInt, 0, 0, false)
	expectAt(t, l, hold, 9, 9, 0, false)
	expectAt(t, l, hold, 45, 9, 0, false)
	expectAt(t, []api.Fact{fact(hold, 5, 0, 9, math.MinInt, math.MinInt)}, hold, 3, math.MinInt, 5, true)
}

// P7.2: Points is about terms alone, whatever the boundaries of facts and the arguments.
func TestPointsAcceptsAll(t *testing.T) {
	l := []api.Fact{fact(hold, 5, math.MinInt, math.MaxInt, 1, 0)}
	for _, from := range borders {
		for _, to := range borders {
			var want []api.Point
			for term := max(from, 0); term < min(to, mostTerm); term++ {
				want = append(want, api.Point{Term: term, Value: 5})
			}
			expectPoints(t, l, hold, from, to, 1, want)
			expectPoints(t, l, hold, from, to, 0, nil)
		}
	}
}

// P7.2: At and Points of lists of all kinds.
func TestValues(t *testing.T) {
	source := rand.New(rand.NewSource(4))
	for _, l := range lists(400, 5) {
		for _, k := range append(keys(l), hold) {
			known := pick(source, times...)
			for _, term := range borders {
				want, found := at(l, k, term, known)
				expectAt(t, l, k, term, known, want, found)
			}
			line := timelineOf(l, k, known)
			expectPoints(t, l, k, 0, mostTerm, known, line.points(0, mostTerm))
			for range 5 {
				from, to := pick(source, borders...), pick(source, borders...)
				expectPoints(t, l, k, from, to, known, line.points(from, to))
			}
		}
	}
}

// R2 and R6: no list is changed, and neither is a result by later calls.
func TestPure(t *testing.T) {
	source := rand.New(rand.NewSource(6))
	for _, l := range lists(50, 7) {
		kept := slices.Clone(l)
		reads := []api.Read{{Key: hold, To: 9}, {Key: someKeys()[0], To: 1024}}
		look := func() ([]api.Point, []api.Change, []api.Fact, bool) {
			return facts.Points(l, someKeys()[0], 0, 1024, 4), facts.Changed(l, 2, 5), facts.Upto(l, 3), facts.Alike(l, reads, 2, 5)
		}
		p, c, u, a := look()
		facts.Check(l)
		facts.Add(l, random(source))
		facts.At(l, hold, 3, 3)
		q, d, v, b := look()
		if !slices.Equal(l, kept) || !slices.Equal(p, q) || !sameChanges(c, d) || !slices.Equal(u, v) || a != b || !slices.Equal(reads, []api.Read{{Key: hold, To: 9}, {Key: someKeys()[0], To: 1024}}) {
			t.Fatal(l, kept)
		}
	}
}
