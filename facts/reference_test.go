package facts_test

import (
	"math"
	"math/rand"
	"slices"
	"testing"

	"sizar/api"
	"sizar/facts"
)

// What follows is the chapter's definitions, term by term, without package facts.

const (
	mostTerm  = 1024
	mostKnown = 1 << 24
	mostValue = 1 << 40
	mostNo    = 65535
)

var (
	hold  = api.Key{Kind: api.HoldK, Subject: 3, Object: 1}
	grade = api.Key{Kind: api.GradeK, Subject: 3, Object: 1}
)

func fact(k api.Key, value, from, to, known, no int) api.Fact {
	return api.Fact{Key: k, Value: value, Valid: api.Span{From: from, To: to}, Known: known, No: no}
}

func isValid(f api.Fact) bool {
	k := f.Key
	if k.Kind < 1 || k.Kind > 12 || k.Subject < 0 || k.Subject > 20000 || k.Object < 0 || k.Object > 20000 {
		return false
	}
	if f.Value < -1 || f.Value > mostValue || f.Valid.From < 0 || f.Valid.From >= f.Valid.To || f.Valid.To > mostTerm {
		return false
	}
	return f.Known >= 1 && f.Known <= mostKnown && f.No >= 0 && f.No <= mostNo
}

func isBefore(a, b api.Fact) bool {
	return a.Known < b.Known || a.Known == b.Known && a.No < b.No
}

func checked(l []api.Fact) api.Errno {
	for _, f := range l {
		if !isValid(f) {
			return api.ErrFact
		}
	}
	for i := range l {
		if i > 0 && !isBefore(l[i-1], l[i]) {
			return api.ErrOrder
		}
	}
	return api.OK
}

// at finds the fact that no other one comes after.
func at(l []api.Fact, k api.Key, term, known int) (int, bool) {
	said := func(f api.Fact) bool {
		return f.Key == k && f.Valid.From <= term && term < f.Valid.To && f.Known <= known
	}
	for i, f := range l {
		if !said(f) {
			continue
		}
		counts := true
		for j, g := range l {
			if said(g) && (isBefore(f, g) || !isBefore(g, f) && i < j) {
				counts = false
			}
		}
		if counts && f.Value > -1 {
			return f.Value, true
		}
	}
	return 0, false
}

// timeline is the value in each term, or -1.
type timeline [mostTerm]int

func timelineOf(l []api.Fact, k api.Key, known int) (line timeline) {
	for term := range line {
		line[term] = -1
		if value, ok := at(l, k, term, known); ok {
			line[term] = value
		}
	}
	return line
}

func (line timeline) points(from, to int) []api.Point {
	var p []api.Point
	for term, value := range line {
		if from <= term && term < to && value != -1 {
			p = append(p, api.Point{Term: term, Value: value})
		}
	}
	return p
}

// keys returns the keys of facts, each once, in their order.
func keys(l []api.Fact) []api.Key {
	var all [][3]int
	for _, f := range l {
		all = append(all, [3]int{f.Key.Kind, f.Key.Subject, f.Key.Object})
	}
	slices.SortFunc(all, func(a, b [3]int) int { return slices.Compare(a[:], b[:]) })
	var found []api.Key
	for _, k := range slices.Compact(all) {
		found = append(found, api.Key{Kind: k[0], Subject: k[1], Object: k[2]})
	}
	return found
}

func changed(l []api.Fact, before, after int) []api.Change {
	var changes []api.Change
	for _, k := range keys(l) {
		x, y := timelineOf(l, k, before), timelineOf(l, k, after)
		var spans []api.Span
		for term := range mostTerm {
			if x[term] == y[term] {
				continue
			}
			if last := len(spans) - 1; last >= 0 && spans[last].To == term {
				spans[last].To++
			} else {
				spans = append(spans, api.Span{From: term, To: term + 1})
			}
		}
		if spans != nil {
			changes = append(changes, api.Change{Key: k, Terms: spans})
		}
	}
	return changes
}

// alike is the definition for one read.
func alike(l []api.Fact, r api.Read, before, after int) bool {
	x, y := timelineOf(l, r.Key, before), timelineOf(l, r.Key, after)
	return slices.Equal(x.points(r.From, r.To), y.points(r.From, r.To))
}

func sameChanges(a, b []api.Change) bool {
	return slices.EqualFunc(a, b, func(c, d api.Change) bool {
		return c.Key == d.Key && slices.Equal(c.Terms, d.Terms)
	})
}

// times are before, at and after those from which the facts that are tried are known.
var times = []int{math.MinInt, -1, 0, 1, 2, 3, 4, 5, 6, mostKnown, math.MaxInt}

// borders are terms and numbers that are none, at which values may begin and end.
var borders = []int{math.MinInt, math.MinInt + 1, -10, -9, -1, 0, 1, 2, 3, 4, 5, 7, 8, 10, 509, 510, 511, 1019, 1021, 1022, 1023, 1024, 1025, 1029, 1030, math.MaxInt - 1, math.MaxInt}

// someKeys differ from each other in each of their parts alone, and not in an order in which all parts increase.
func someKeys() []api.Key {
	return []api.Key{{Kind: 5, Subject: 7, Object: 2}, {Kind: 5, Subject: 7, Object: 9}, {Kind: 5, Subject: 20000, Object: 0}, {Kind: 6, Subject: 0, Object: 9}, {Kind: 12, Subject: 0, Object: 0}}
}

func pick[T any](source *rand.Rand, l ...T) T { return l[source.Intn(len(l))] }

// random returns a fact that is often about the same key and the same terms as others.
func random(source *rand.Rand) api.Fact {
	from := pick(source, 0, 1, 2, 3, 5, 8, 510, 1019, 1022, 1023)
	to := min(mostTerm, from+pick(source, 1, 1, 2, 3, 5, 600, mostTerm))
	k := pick(source, someKeys()...)
	if source.Intn(2) == 0 {
		k = someKeys()[0]
	}
	return fact(k, pick(source, -1, -1, 0, 1, 1, 2, mostValue), from, to, 1+source.Intn(6), source.Intn(3))
}

// ordered returns a valid list.
func ordered(source *rand.Rand) []api.Fact {
	var l []api.Fact
	for range source.Intn(10) {
		l = append(l, random(source))
	}
	slices.SortStableFunc(l, func(a, b api.Fact) int { return a.Known - b.Known })
	for i := range l {
		l[i].No = source.Intn(3)
		if i > 0 && l[i-1].Known == l[i].Known {
			l[i].No += l[i-1].No + 1
		}
	}
	return l
}

// wild returns a list in any order, with facts that are equal in it and facts that are not valid.
func wild(source *rand.Rand) []api.Fact {
	var l []api.Fact
	for range source.Intn(10) {
		f := random(source)
		switch source.Intn(12) {
		case 0:
			f.Value = pick(source, -2, -7, math.MinInt, math.MaxInt, mostValue+1)
		case 1:
			f.Valid = pick(source, api.Span{}, api.Span{From: 5, To: 3}, api.Span{From: -9, To: 4}, api.Span{From: 1020, To: 1030}, api.Span{From: math.MinInt, To: math.MaxInt}, api.Span{From: math.MaxInt, To: math.MinInt}, api.Span{From: math.MaxInt - 1, To: math.MaxInt})
		case 2:
			f.Known = pick(source, math.MinInt, -1, 0, mostKnown+1, math.MaxInt)
		case 3:
			f.No = pick(source, math.MinInt, -1, mostNo+1, math.MaxInt)
		case 4:
			f.Key = pick(source, api.Key{}, api.Key{Kind: -1, Subject: math.MinInt, Object: math.MaxInt}, api.Key{Kind: 5, Subject: 7, Object: -2}, api.Key{Kind: math.MaxInt})
		}
		l = append(l, f)
	}
	return l
}

// lists returns lists of all kinds.
func lists(n int, seed int64) [][]api.Fact {
	source := rand.New(rand.NewSource(seed))
	l := [][]api.Fact{nil, {}, {{}}}
	for range n {
		l = append(l, ordered(source), wild(source))
	}
	return l
}

// shuffled returns the elements of a list in another order.
func shuffled(source *rand.Rand, l []api.Fact) []api.Fact {
	x := slices.Clone(l)
	source.Shuffle(len(x), func(i, j int) { x[i], x[j] = x[j], x[i] })
	return x
}

func expectAt(t *testing.T, l []api.Fact, k api.Key, term, known, want int, found bool) {
	t.Helper()
	if value, ok := facts.At(l, k, term, known); value != want || ok != found {
		t.Fatal("At", l, k, term, known, "is", value, ok, "instead of", want, found)
	}
}

func expectPoints(t *testing.T, l []api.Fact, k api.Key, from, to, known int, want []api.Point) {
	t.Helper()
	if p := facts.Points(l, k, from, to, known); !slices.Equal(p, want) {
		t.Fatal("Points", l, k, from, to, known, "are", p, "instead of", want)
	}
}

func expectChanged(t *testing.T, l []api.Fact, before, after int, want []api.Change) {
	t.Helper()
	if c := facts.Changed(l, before, after); !sameChanges(c, want) {
		t.Fatal("Changed", l, before, after, "is", c, "instead of", want)
	}
}

func expectAlike(t *testing.T, l []api.Fact, reads []api.Read, before, after int, want bool) {
	t.Helper()
	if facts.Alike(l, reads, before, after) != want {
		t.Fatal("Alike", l, reads, before, after, "is not", want)
	}
}
