package facts_test

import (
	"math"
	"math/rand"
	"slices"
	"testing"

	"sizar/api"
	"sizar/facts"
)

// P7.3: the chapter's examples.
func TestChangedExamples(t *testing.T) {
	l := example()
	expectChanged(t, l, 15, 20, []api.Change{{Key: hold, Terms: []api.Span{{From: 3, To: 4}}}})
	expectChanged(t, l, 20, 15, []api.Change{{Key: hold, Terms: []api.Span{{From: 3, To: 4}}}})
	expectChanged(t, l, 9, 10, []api.Change{{Key: hold, Terms: []api.Span{{From: 2, To: 6}}}})
	expectChanged(t, l, 9, 20, []api.Change{{Key: hold, Terms: []api.Span{{From: 2, To: 3}, {From: 4, To: 6}}}})
	expectChanged(t, l, 10, 19, nil)
	expectChanged(t, l, 20, 99, nil)
	expectChanged(t, l, 15, 15, nil)
	expectChanged(t, nil, 1, 2, nil)
	expectAlike(t, l, nil, 1, 2, true)
	expectAlike(t, l, []api.Read{}, 15, 20, true)
	expectAlike(t, nil, []api.Read{{Key: hold, To: 1024}}, 1, 2, true)
}

// P7.3: a fact that says again what was known, or takes away what there was not, changes nothing; a value of 0 is another one than none.
func TestWhatDiffers(t *testing.T) {
	for _, x := range []struct{ first, then, from, to int }{{7, 7, 0, 0}, {-1, -1, 0, 0}, {7, 8, 3, 5}, {7, -1, 3, 5}, {-1, 7, 3, 5}, {-1, 0, 3, 5}, {0, -1, 3, 5}, {-1, -2, 0, 0}, {-5, -1, 0, 0}, {0, math.MinInt, 3, 5}} {
		l := []api.Fact{fact(hold, x.first, 0, 1024, 1, 0), fact(hold, x.then, 3, 5, 2, 0)}
		var want []api.Change
		if x.from < x.to {
			want = []api.Change{{Key: hold, Terms: []api.Span{{From: x.from, To: x.to}}}}
		}
		expectChanged(t, l, 1, 2, want)
		for from := range 7 {
			for to := range 7 {
				differs := want != nil && max(from, 3) < min(to, 5)
				expectAlike(t, l, []api.Read{{Key: hold, From: from, To: to}}, 1, 2, !differs)
			}
		}
	}
}

// P7.3: terms that touch are one span also where several facts, or several values, make the difference; the first and the last term are included.
func TestSpans(t *testing.T) {
	l := []api.Fact{fact(hold, 1, 0, 2, 2, 0), fact(hold, 2, 2, 4, 2, 1), fact(hold, 1, 4, 5, 3, 0), fact(hold, 1, 6, 7, 3, 1), fact(hold, 4, 1000, 1024, 3, 2), fact(hold, 4, 1010, 1011, 4, 0), fact(hold, 5, 1012, 1013, 4, 1)}
	expectChanged(t, l, 1, 4, []api.Change{{Key: hold, Terms: []api.Span{{From: 0, To: 5}, {From: 6, To: 7}, {From: 1000, To: 1024}}}})
	expectChanged(t, l, 3, 4, []api.Change{{Key: hold, Terms: []api.Span{{From: 1012, To: 1013}}}})
	expectChanged(t, []api.Fact{fact(hold, 1, 1023, 1024, 2, 0), fact(hold, 1, 0, 1, 2, 0)}, 1, 2, []api.Change{{Key: hold, Terms: []api.Span{{From: 0, To: 1}, {From: 1023, To: 1024}}}})
	expectChanged(t, []api.Fact{fact(hold, 1, -5, 2000, 2, 0)}, 1, 2, []api.Change{{Key: hold, Terms: []api.Span{{From: 0, To: 1024}}}})
	expectChanged(t, []api.Fact{fact(hold, 1, -5, 0, 2, 0), fact(grade, 1, 1024, 2000, 2, 0), fact(hold, 1, 7, 3, 2, 0)}, 1, 2, nil)
}

// P7.3: all second terms, which are as many spans as there can be.
func TestManySpans(t *testing.T) {
	var l []api.Fact
	want := []api.Change{{Key: hold}}
	for term := 1; term < mostTerm; term += 2 {
		l = append(l, fact(hold, 1, term, term+1, 2, term))
		want[0].Terms = append(want[0].Terms, api.Span{From: term, To: term + 1})
	}
	expectChanged(t, l, 1, 2, want)
}

// P7.3: changes are ordered by Kind, then Subject, then Object, and there is one for each key.
func TestOrderOfChanges(t *testing.T) {
	source := rand.New(rand.NewSource(8))
	numbers := []int{math.MinInt, -1, 0, 1, 2, 12, 20000, math.MaxInt}
	for range 200 {
		var l []api.Fact
		for range 20 {
			k := api.Key{Kind: pick(source, numbers...), Subject: pick(source, numbers...), Object: pick(source, numbers...)}
			l = append(l, fact(k, 1, 3, 4, 2, 0), fact(k, 1, 5, 6, 2, 0))
		}
		var want []api.Change
		for _, k := range keys(l) {
			want = append(want, api.Change{Key: k, Terms: []api.Span{{From: 3, To: 4}, {From: 5, To: 6}}})
		}
		expectChanged(t, l, 1, 2, want)
		expectChanged(t, shuffled(source, l), 2, 1, want)
	}
}

// P7.3: one read that is not alike is enough, wherever it is.
func TestAlikeOfSeveral(t *testing.T) {
	l := append(example(), fact(grade, 3, 0, 1024, 20, 1))
	alike, other := []api.Read{{Key: hold, From: 4, To: 1024}, {Key: hold, To: 3}, {Key: api.Key{Kind: 1}, To: 1024}, {Key: grade, From: 5, To: 5}, {Key: grade, From: 9, To: 3}}, []api.Read{{Key: hold, From: 3, To: 4}, {Key: hold, From: math.MinInt, To: math.MaxInt}, {Key: grade, To: 1}, {Key: grade, From: 1023, To: math.MaxInt}}
	expectAlike(t, l, alike, 15, 20, true)
	for _, r := range other {
		for i := range len(alike) + 1 {
			expectAlike(t, l, slices.Insert(slices.Clone(alike), i, r), 15, 20, false)
			expectAlike(t, l, slices.Insert(slices.Clone(alike), i, r), 20, 15, false)
			expectAlike(t, l, slices.Insert(slices.Clone(alike), i, r), 15, 19, true)
		}
	}
}

// P7.3: numbers that are no terms are looked at by no read.
func TestAlikeIsAboutTerms(t *testing.T) {
	l := []api.Fact{fact(hold, 1, -5, 0, 2, 0), fact(hold, 1, 1024, 2000, 2, 0), fact(grade, 1, -5, 2000, 2, 0)}
	for _, x := range []struct {
		from, to int
		alike    bool
	}{{-5, 0, true}, {1024, 2000, true}, {math.MinInt, 0, true}, {-1, 1, false}, {1023, 1025, false}, {math.MinInt, math.MaxInt, false}, {math.MaxInt, math.MinInt, true}} {
		expectAlike(t, l, []api.Read{{Key: grade, From: x.from, To: x.to}}, 1, 2, x.alike)
		expectAlike(t, l, []api.Read{{Key: hold, From: x.from, To: x.to}}, 1, 2, true)
	}
}

// P7.3: the facts that are known at a time stay in their order, in lists of all kinds.
func TestUpto(t *testing.T) {
	l := example()
	for _, x := range []struct{ known, n int }{{math.MinInt, 0}, {9, 0}, {10, 1}, {19, 1}, {20, 2}, {math.MaxInt, 2}} {
		if got := facts.Upto(l, x.known); !slices.Equal(got, l[:x.n]) {
			t.Error(x, got)
		}
	}
	for _, l := range lists(200, 9) {
		for _, known := range times {
			want := slices.DeleteFunc(slices.Clone(l), func(f api.Fact) bool { return f.Known > known })
			if got := facts.Upto(l, known); !slices.Equal(got, want) {
				t.Fatal(l, known, got)
			}
		}
	}
}

// P7.3: Changed and Alike of lists of all kinds.
func TestChangedOfAll(t *testing.T) {
	source := rand.New(rand.NewSource(10))
	for _, l := range lists(300, 11) {
		for range 3 {
			before, after := pick(source, times...), pick(source, times...)
			expectChanged(t, l, before, after, changed(l, before, after))
			all := true
			var reads []api.Read
			for range 3 {
				r := api.Read{Key: pick(source, append(keys(l), hold)...), From: pick(source, borders...), To: pick(source, borders...)}
				ok := alike(l, r, before, after)
				expectAlike(t, l, []api.Read{r}, before, after, ok)
				reads, all = append(reads, r), all && ok
			}
			expectAlike(t, l, reads, before, after, all)
		}
	}
}

// P7.3: lists of as many facts as there can be entries, of one key and of many, in a time that is about proportional to their length.
func TestLong(t *testing.T) {
	var one, many []api.Fact
	for i := range api.MaxEntries {
		one = append(one, fact(hold, i, i%1024, 1024, 1+i, 0))
		many = append(many, fact(api.Key{Kind: 5, Subject: i % 20000, Object: i / 20000}, i, 3, 5, 1+i, 0))
	}
	last := api.MaxEntries - 1
	expectAt(t, one, hold, 1023, mostKnown, last, true)
	expectChanged(t, one, last, last+1, []api.Change{{Key: hold, Terms: []api.Span{{From: 1023, To: 1024}}}})
	expectChanged(t, many, last, last+1, []api.Change{{Key: many[last].Key, Terms: []api.Span{{From: 3, To: 5}}}})
	if c := facts.Changed(many, 0, last+1); len(c) != len(many) {
		t.Error(len(c))
	}
	var reads []api.Read
	for _, f := range many {
		reads = append(reads, api.Read{Key: f.Key, From: 3, To: 5})
	}
	expectAlike(t, many, reads, last, last+1, false)
	expectAlike(t, many, reads[:last], last, last+1, true)
}
