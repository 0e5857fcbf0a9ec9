package terms_test

import (
	"slices"
	"testing"

	"sizar/api"
	"sizar/terms"
)

func expectOperations(t *testing.T, a, b []api.Span) {
	t.Helper()
	for _, o := range operations() {
		if l, e := o.do(a, b); e != api.OK || !slices.Equal(l, o.defined(of(a), of(b)).list()) {
			t.Error(o.name, a, b, l, e)
		}
	}
}

// P6.2: the examples of the chapter, and sets that overlap, touch, contain each other or are equal.
func TestOperationExamples(t *testing.T) {
	for _, x := range []struct{ a, b, union, meet, minus []api.Span }{
		{nil, nil, nil, nil, nil},
		{spans(1, 5), spans(3, 8), spans(1, 8), spans(3, 5), spans(1, 3)},
		{spans(3, 8), spans(1, 5), spans(1, 8), spans(3, 5), spans(5, 8)},
		{spans(0, 3), spans(3, 5), spans(0, 5), nil, spans(0, 3)},
		{spans(0, 1024), spans(5, 6), spans(0, 1024), spans(5, 6), spans(0, 5, 6, 1024)},
		{spans(5, 6), spans(0, 1024), spans(0, 1024), spans(5, 6), nil},
		{spans(0, 1024), spans(0, 1024), spans(0, 1024), spans(0, 1024), nil},
		{spans(0, 1024), nil, spans(0, 1024), nil, spans(0, 1024)},
		{nil, spans(0, 1024), spans(0, 1024), nil, nil},
		{spans(1, 2), spans(3, 4), spans(1, 2, 3, 4), nil, spans(1, 2)},
		{spans(1, 5), spans(1, 3), spans(1, 5), spans(1, 3), spans(3, 5)},
		{spans(1, 5), spans(3, 5), spans(1, 5), spans(3, 5), spans(1, 3)},
		{spans(0, 2, 4, 6), spans(2, 4), spans(0, 6), nil, spans(0, 2, 4, 6)},
		{spans(0, 2, 4, 6), spans(1, 5), spans(0, 6), spans(1, 2, 4, 5), spans(0, 1, 5, 6)},
		{spans(0, 2, 4, 6), spans(0, 4), spans(0, 6), spans(0, 2), spans(4, 6)},
		{spans(0, 2, 4, 6, 8, 10), spans(4, 6), spans(0, 2, 4, 6, 8, 10), spans(4, 6), spans(0, 2, 8, 10)},
	} {
		for i, want := range [][]api.Span{x.union, x.meet, x.minus} {
			o := operations()[i]
			if l, e := o.do(x.a, x.b); e != api.OK || !slices.Equal(l, want) {
				t.Error(o.name, x.a, x.b, l, e)
			}
		}
	}
}

// P6.2: the operations with all pairs of sets of a few terms: the first ones, the last ones, and some far from each other.
func TestOperationsOfAll(t *testing.T) {
	for _, all := range [][]int{{0, 1, 2, 3, 4, 5}, {most - 6, most - 5, most - 4, most - 3, most - 2, most - 1}, {0, 1, 2, 511, 512, most - 1}} {
		l := subsets(all...)
		for _, a := range l {
			for _, b := range l {
				expectOperations(t, a, b)
			}
		}
	}
}

// P6.2: the operations with sets at the borders and with random ones.
func TestOperations(t *testing.T) {
	l := valid()
	for _, a := range l {
		for _, b := range l {
			expectOperations(t, a, b)
		}
	}
}

// P6.2: a list that is not valid is refused on either side, also where the result would not depend on it.
func TestOperationsRefuse(t *testing.T) {
	others := append(invalid(), nil, spans(0, most), spans(1, 5), spans(most-1, most))
	for _, a := range invalid() {
		for _, b := range others {
			for _, o := range operations() {
				if l, e := o.do(a, b); l != nil || e != api.ErrTerms {
					t.Error(o.name, a, b, l, e)
				}
				if l, e := o.do(b, a); l != nil || e != api.ErrTerms {
					t.Error(o.name, b, a, l, e)
				}
			}
		}
	}
}

// P6.1, P6.2 and R2: neither list is changed, nor the memory behind it, nor results that were returned, and equal calls have equal results.
func TestPure(t *testing.T) {
	all, others := spans(1, 5, 7, 9, 20, 30, 90, 91), spans(3, 8, 9, 12, 25, 26, 90, 91)
	a, b := slices.Clone(all), slices.Clone(others)
	for n := range 4 {
		for m := range 4 {
			for _, o := range operations() {
				x, y := a[:n], b[:m]
				l := result(t, x, y, o.do)
				kept := slices.Clone(l)
				for _, other := range operations() {
					result(t, l, y, other.do)
					result(t, x, l, other.do)
				}
				if !slices.Equal(l, kept) || !slices.Equal(result(t, x, y, o.do), kept) {
					t.Error(o.name, x, y, l, kept)
				}
			}
			terms.Has(a[:n], m)
			counted(t, b[:m])
		}
	}
	if !slices.Equal(a, all) || !slices.Equal(b, others) {
		t.Error(a, b)
	}
}

// P6.2 and R3: nil is like an empty list, on either side.
func TestOperationsOfEmpty(t *testing.T) {
	for _, empty := range [][]api.Span{nil, {}, spans(5, 6)[:0]} {
		for _, b := range valid() {
			expectOperations(t, empty, b)
			expectOperations(t, b, empty)
		}
	}
}
