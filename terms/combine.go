package terms

import (
	"cmp"
	"slices"

	"sizar/api"
)

// combine returns the terms that a function keeps when it learns in which of two sets they are. The function must not keep a term that is in neither, since the result would have no end.
func combine(a, b []api.Span, keep func(inA, inB bool) bool) (l []api.Span, e api.Errno) {
	for _, set := range [...][]api.Span{a, b} {
		if e := Check(set); e != api.OK {
			return nil, e
		}
	}
	ofA, ofB := boundaries(a), boundaries(b)
	var kept []int
	// What is kept changes only where one of the sets does.
	for _, at := range sorted(ofA, ofB) {
		open := len(kept)%2 == 1
		if keep(within(ofA, at), within(ofB, at)) != open {
			kept = append(kept, at)
		}
	}
	return between(kept), api.OK
}

// boundaries returns the terms at which a valid set begins or ends, in increasing order.
func boundaries(l []api.Span) []int {
	ends := make([]int, 0, 2*len(l))
	for _, span := range l {
		ends = append(ends, span.From, span.To)
	}
	return ends
}

// within reports whether a term is in the set with these boundaries: beginnings and ends alternate, so it is where the number of boundaries up to it is odd.
func within(ends []int, term int) bool {
	n, _ := slices.BinarySearch(ends, term+1)
	return n%2 == 1
}

// between returns the set with these boundaries.
func between(ends []int) []api.Span {
	var l []api.Span
	for pair := range slices.Chunk(ends, 2) {
		l = append(l, api.Span{From: pair[0], To: pair[1]})
	}
	return l
}

// sorted returns the elements of lists in increasing order, in memory of its own.
func sorted[T cmp.Ordered](lists ...[]T) []T {
	l := slices.Concat(lists...)
	slices.Sort(l)
	return l
}
