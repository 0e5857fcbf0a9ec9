package terms_test

import (
	"math"
	"slices"
	"testing"

	"sizar/api"
	"sizar/terms"
)

// invalid returns lists that are not valid, each for another reason.
func invalid() [][]api.Span {
	return [][]api.Span{
		spans(0, most+1), spans(-1, 0), spans(-1, 5), spans(-1, most+1), spans(0, 0), spans(5, 5), spans(most, most), spans(most, most+1), spans(5, 4), spans(most, 0), spans(1, 0),
		spans(1, 3, 3, 5), spans(1, 3, 2, 5), spans(1, 3, 1, 3), spans(1, 5, 2, 3), spans(2, 3, 1, 5), spans(4, 5, 1, 2), spans(1, 3, 0, 1),
		spans(0, 1, 2, 3, 3, 4), spans(0, 1, 1, 2, 3, 4), spans(0, 1, 5, 6, 3, 4), spans(3, 4, 0, 1, 5, 6), spans(0, 1, 2, 2, 4, 5), spans(0, 1, 3, 2, 4, 5), spans(0, 1, 2, most+1), spans(0, 1, 1, 1),
		spans(-5, -3), spans(-5, -3, 1, 2), spans(most+1, most+2), spans(0, 1, most, most+1), spans(0, most, most+1, most+2), spans(0, most, 0, most),
		spans(math.MinInt, math.MaxInt), spans(math.MaxInt, math.MinInt), spans(0, math.MaxInt), spans(math.MinInt, 5), spans(1, math.MinInt), spans(math.MaxInt, math.MaxInt), spans(math.MinInt, math.MinInt), spans(0, math.MaxInt, math.MinInt, 5), spans(1, 2, math.MinInt, math.MaxInt), spans(1, 2, math.MaxInt, most),
		{{}}, {{}, {}}, append(spans(0, 1), api.Span{}), append([]api.Span{{}}, spans(1, 2)...),
	}
}

func expectChecked(t *testing.T, l []api.Span, want api.Errno) {
	t.Helper()
	if e := terms.Check(l); e != want {
		t.Error("Check", l, e)
	}
	n := 0
	if want == api.OK {
		n = of(l).count()
	}
	if m, e := terms.Count(l); m != n || e != want {
		t.Error("Count", l, m, e, "instead of", n)
	}
}

// P6.1: the examples of the chapter.
func TestCheckExamples(t *testing.T) {
	for _, x := range []struct {
		l []api.Span
		n int
		e api.Errno
	}{
		{nil, 0, api.OK},
		{[]api.Span{}, 0, api.OK},
		{spans(0, 1025), 0, api.ErrTerms},
		{spans(0, 1024), 1024, api.OK},
		{spans(1, 3, 3, 5), 0, api.ErrTerms},
		{spans(1, 5), 4, api.OK},
		{spans(1, 3, 4, 5), 3, api.OK},
		{spans(0, 5, 6, 1024), 1023, api.OK},
		{spans(1023, 1024), 1, api.OK},
	} {
		if e := terms.Check(x.l); e != x.e {
			t.Error(x, e)
		}
		if n, e := terms.Count(x.l); n != x.n || e != x.e {
			t.Error(x, n, e)
		}
	}
}

// P6.1: valid lists are accepted, and their terms are counted.
func TestCheckAccepts(t *testing.T) {
	for _, l := range valid() {
		expectChecked(t, l, api.OK)
	}
}

// P6.1: lists that are not valid are refused, alone and behind and before spans that are valid by themselves.
func TestCheckRefuses(t *testing.T) {
	for _, l := range invalid() {
		expectChecked(t, l, api.ErrTerms)
		expectChecked(t, append(l[:len(l):len(l)], spans(most-1, most)...), api.ErrTerms)
		expectChecked(t, append(spans(0, 1), l...), api.ErrTerms)
	}
}

// P6.1: Check and Count of all lists of up to two spans whose boundaries are little or at a border, and of many of three.
func TestCheckOfAll(t *testing.T) {
	ends := []int{math.MinInt, -1, 0, 1, 2, 3, 511, most - 2, most - 1, most, most + 1, math.MaxInt}
	var single []api.Span
	for _, from := range ends {
		for _, to := range ends {
			single = append(single, api.Span{From: from, To: to})
		}
	}
	expect := func(l ...api.Span) {
		want := api.OK
		if !isValid(l) {
			want = api.ErrTerms
		}
		expectChecked(t, l, want)
	}
	for _, a := range single {
		expect(a)
		for i, b := range single {
			expect(a, b)
			expect(a, b, single[(5*i+7)%len(single)])
		}
	}
}

// P6.1: each set of terms is represented by exactly one valid list.
func TestOneListForEachSet(t *testing.T) {
	var single []api.Span
	for from := range 7 {
		for to := range 7 {
			single = append(single, api.Span{From: from, To: to})
		}
	}
	found := map[set]int{}
	count := func(l ...api.Span) {
		if terms.Check(l) == api.OK {
			found[of(l)]++
		}
	}
	count()
	for _, a := range single {
		count(a)
		for _, b := range single {
			count(a, b)
			for _, c := range single {
				count(a, b, c)
			}
		}
	}
	if len(found) != 1<<6 {
		t.Error(len(found), "sets of the terms 0 to 5")
	}
	for s, n := range found {
		if n != 1 || terms.Check(s.list()) != api.OK {
			t.Error(s.list(), n)
		}
	}
}

// P6.1: Has of valid lists, for all terms and for numbers that are none.
func TestHas(t *testing.T) {
	for _, l := range valid() {
		if had(l) != of(l) {
			t.Error(l, had(l).list())
		}
		for _, term := range []int{math.MinInt, math.MinInt + 1, -most, -1, most, most + 1, 1 << 32, math.MaxInt - 1, math.MaxInt} {
			if terms.Has(l, term) {
				t.Error(l, term)
			}
		}
	}
}

// P6.1: Has accepts all lists, in any order, with spans that overlap, are empty or contain numbers that are no terms.
func TestHasAcceptsAll(t *testing.T) {
	for _, x := range []struct {
		l    []api.Span
		term int
		want bool
	}{
		{spans(5, 6, 1, 2000), 1500, true},
		{spans(5, 6, 1, 2000), 0, false},
		{spans(5, 6, 1, 3), 2, true},
		{spans(5, 6, 1, 3), 5, true},
		{spans(5, 6, 1, 3), 4, false},
		{spans(1, 3, 3, 5), 3, true},
		{spans(1, 9, 2, 3), 5, true},
		{spans(5, 5), 5, false},
		{spans(7, 3), 5, false},
		{spans(7, 3), 7, false},
		{spans(7, 3, 2, 4), 3, true},
		{spans(-5, -3), -4, true},
		{spans(-5, -3), -3, false},
		{spans(0, 1025), 1024, true},
		{spans(math.MinInt, math.MaxInt), math.MinInt, true},
		{spans(math.MinInt, math.MaxInt), 0, true},
		{spans(math.MinInt, math.MaxInt), math.MaxInt - 1, true},
		{spans(math.MinInt, math.MaxInt), math.MaxInt, false},
		{spans(math.MaxInt, math.MinInt), 0, false},
		{spans(math.MaxInt, math.MaxInt), math.MaxInt, false},
		{append([]api.Span{{}}, spans(1, 2)...), 1, true},
		{[]api.Span{{}}, 0, false},
	} {
		if terms.Has(x.l, x.term) != x.want {
			t.Error(x)
		}
	}
	for _, l := range invalid() {
		for _, term := range []int{math.MinInt, -5, -1, 0, 1, 2, 3, 4, 5, most - 1, most, most + 1, math.MaxInt} {
			want := slices.ContainsFunc(l, func(span api.Span) bool { return span.From <= term && term < span.To })
			if terms.Has(l, term) != want {
				t.Error(l, term, !want)
			}
		}
	}
}
