package facts_test

import (
	"math"
	"math/rand"
	"slices"
	"testing"

	"sizar/api"
	"sizar/facts"
)

// P7.4: what is known at a time is not changed by facts that become known later.
func TestPastRemains(t *testing.T) {
	source := rand.New(rand.NewSource(12))
	for range 300 {
		l := ordered(source)
		then := 0
		if len(l) > 0 {
			then = l[len(l)-1].Known
		}
		longer := l
		for i := range 5 {
			f := random(source)
			f.Known += then + i
			if x, e := facts.Add(longer, f); e == api.OK {
				longer = x
			}
		}
		for _, k := range someKeys() {
			known := pick(source, then, then-1, then/2)
			expectPoints(t, longer, k, 0, 1024, known, facts.Points(l, k, 0, 1024, known))
			for _, term := range borders {
				value, ok := facts.At(l, k, term, known)
				expectAt(t, longer, k, term, known, value, ok)
			}
		}
		expectChanged(t, longer, then/2, then, facts.Changed(l, then/2, then))
		if !slices.Equal(facts.Upto(longer, then), l) {
			t.Fatal(l, longer)
		}
	}
}

// P7.4: a value as known at a time is that in Upto this time, as known at any later time.
func TestValuesOfUpto(t *testing.T) {
	source := rand.New(rand.NewSource(13))
	for _, l := range lists(200, 14) {
		for _, known := range times {
			past := facts.Upto(l, known)
			later := pick(source, known, max(known, 3), mostKnown, math.MaxInt)
			if later < known {
				continue
			}
			for _, k := range someKeys()[:2] {
				expectPoints(t, past, k, 0, 1024, later, facts.Points(l, k, 0, 1024, known))
				for _, term := range borders {
					value, ok := facts.At(l, k, term, known)
					expectAt(t, past, k, term, later, value, ok)
				}
			}
		}
	}
}

// P7.4: Points has exactly the terms in which At finds a value.
func TestPointsAgreesWithAt(t *testing.T) {
	source := rand.New(rand.NewSource(15))
	for _, l := range lists(200, 16) {
		for _, k := range append(keys(l), hold) {
			known := pick(source, times...)
			var want []api.Point
			for term := range mostTerm {
				if value, ok := facts.At(l, k, term, known); ok {
					want = append(want, api.Point{Term: term, Value: value})
				}
			}
			expectPoints(t, l, k, 0, mostTerm, known, want)
		}
	}
}

// P7.4: a read is alike at two times exactly if none of its terms is in a change of its key.
func TestAlikeAgreesWithChanged(t *testing.T) {
	source := rand.New(rand.NewSource(17))
	for _, l := range lists(400, 18) {
		before, after := pick(source, times...), pick(source, times...)
		c := facts.Changed(l, before, after)
		for range 40 {
			r := api.Read{Key: pick(source, append(keys(l), hold)...), From: pick(source, borders...), To: pick(source, borders...)}
			touched := slices.ContainsFunc(c, func(c api.Change) bool {
				return c.Key == r.Key && slices.ContainsFunc(c.Terms, func(s api.Span) bool { return max(r.From, s.From) < min(r.To, s.To) })
			})
			expectAlike(t, l, []api.Read{r}, before, after, !touched)
		}
	}
}

// P7.4: in a valid list, the order of the list does not matter for values.
func TestOrderOfListDoesNotMatter(t *testing.T) {
	source := rand.New(rand.NewSource(19))
	for range 400 {
		l := ordered(source)
		if facts.Check(l) != api.OK {
			t.Fatal(l)
		}
		for range 3 {
			x := shuffled(source, l)
			k, known := pick(source, someKeys()...), pick(source, times...)
			expectPoints(t, x, k, 0, 1024, known, facts.Points(l, k, 0, 1024, known))
			for _, term := range borders {
				value, ok := facts.At(l, k, term, known)
				expectAt(t, x, k, term, known, value, ok)
			}
			before, after := pick(source, times...), pick(source, times...)
			expectChanged(t, x, before, after, facts.Changed(l, before, after))
		}
	}
}

// P7.4: both times of knowledge are treated alike, and at one time nothing differs.
func TestTimesAreTreatedAlike(t *testing.T) {
	for _, l := range lists(100, 20) {
		for i, before := range times {
			after := times[(3*i+2)%len(times)]
			expectChanged(t, l, before, after, facts.Changed(l, after, before))
			expectChanged(t, l, before, before, nil)
			for _, k := range someKeys() {
				r := []api.Read{{Key: k, To: 600}}
				expectAlike(t, l, r, before, after, facts.Alike(l, r, after, before))
				expectAlike(t, l, r, before, before, true)
			}
		}
	}
}
