package terms_test

import (
	"math/rand"
	"testing"

	"sizar/api"
	"sizar/terms"
)

// What follows is the chapter's definitions over arrays of terms, without package terms.

const most = 1024

// set says of each term whether it is in a set.
type set [most]bool

// spans returns the spans with these boundaries.
func spans(ends ...int) []api.Span {
	var l []api.Span
	for i := 0; i < len(ends); i += 2 {
		l = append(l, api.Span{From: ends[i], To: ends[i+1]})
	}
	return l
}

// isValid is the definition of a valid list.
func isValid(l []api.Span) bool {
	for i, span := range l {
		if span.From < 0 || span.From >= span.To || span.To > most {
			return false
		}
		if i+1 < len(l) && span.To >= l[i+1].From {
			return false
		}
	}
	return true
}

// of returns the set that a valid list represents.
func of(l []api.Span) (s set) {
	for _, span := range l {
		for term := span.From; term < span.To; term++ {
			s[term] = true
		}
	}
	return s
}

func (s set) count() (n int) {
	for _, in := range s {
		if in {
			n++
		}
	}
	return n
}

// list returns the valid list that represents a set: a span for each longest run of terms.
func (s set) list() []api.Span {
	var l []api.Span
	for term, in := range s {
		if !in {
			continue
		}
		if term > 0 && s[term-1] {
			l[len(l)-1].To = term + 1
		} else {
			l = append(l, api.Span{From: term, To: term + 1})
		}
	}
	return l
}

func (s set) with(t set, keep func(inA, inB bool) bool) (u set) {
	for term := range s {
		u[term] = keep(s[term], t[term])
	}
	return u
}

func union(s, t set) set { return s.with(t, func(inA, inB bool) bool { return inA || inB }) }

func meet(s, t set) set { return s.with(t, func(inA, inB bool) bool { return inA && inB }) }

func minus(s, t set) set { return s.with(t, func(inA, inB bool) bool { return inA && !inB }) }

// operation is one of Union, Meet and Minus, with its definition.
type operation struct {
	name    string
	do      func(a, b []api.Span) ([]api.Span, api.Errno)
	defined func(s, t set) set
}

func operations() []operation {
	return []operation{{"union", terms.Union, union}, {"meet", terms.Meet, meet}, {"minus", terms.Minus, minus}}
}

// subsets returns the valid lists of all sets of some terms.
func subsets(of ...int) [][]api.Span {
	var l [][]api.Span
	for mask := range 1 << len(of) {
		var s set
		for i, term := range of {
			s[term] = mask>>i&1 == 1
		}
		l = append(l, s.list())
	}
	return l
}

// random returns valid lists of random sets, with runs of all lengths.
func random(n int, seed int64) [][]api.Span {
	source := rand.New(rand.NewSource(seed))
	var l [][]api.Span
	for range n {
		var s set
		longest := 1 + source.Intn(1<<source.Intn(11))
		in := source.Intn(2) == 1
		for term := 0; term < most; in = !in {
			for range 1 + source.Intn(longest) {
				if term < most {
					s[term] = in
					term++
				}
			}
		}
		l = append(l, s.list())
	}
	return l
}

// borders returns valid lists at the borders of what is valid: no term, all of them, the first and the last one, and as many spans as there can be.
func borders() [][]api.Span {
	var even, odd set
	for term := range most {
		even[term], odd[term] = term%2 == 0, term%2 == 1
	}
	return [][]api.Span{
		nil, {}, spans(0, most), spans(0, 1), spans(most-1, most), spans(0, 1, most-1, most), spans(1, most-1), spans(0, most-1), spans(1, most),
		spans(0, 511, 512, most), spans(511, 512), spans(0, 512), spans(512, most), even.list(), odd.list(),
	}
}

// valid returns valid lists of all kinds.
func valid() [][]api.Span {
	return append(append(borders(), random(30, 1)...), subsets(0, 1, 2, most-2, most-1)...)
}

// had returns the terms that Has finds in a list.
func had(l []api.Span) (s set) {
	for term := range s {
		s[term] = terms.Has(l, term)
	}
	return s
}

func result(t *testing.T, a, b []api.Span, do func(a, b []api.Span) ([]api.Span, api.Errno)) []api.Span {
	t.Helper()
	l, e := do(a, b)
	if e != api.OK {
		t.Fatal(a, b, e)
	}
	return l
}

func counted(t *testing.T, l []api.Span) int {
	t.Helper()
	n, e := terms.Count(l)
	if e != api.OK {
		t.Fatal(l, e)
	}
	return n
}
