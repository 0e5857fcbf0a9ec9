package stamps_test

import (
	"math/rand"
	"slices"
	"testing"

	"sizar/api"
	"sizar/stamps"
)

func expectMerged(t *testing.T, a, b, want []api.Stamp, wantE api.Errno) {
	t.Helper()
	if l, e := stamps.Merge(a, b); !slices.Equal(l, want) || e != wantE {
		t.Error("Merge", a, b, "is", l, e, "instead of", want, wantE)
	}
}

// P8.3: no stamps, stamps of one list, of the other one and of both, at the beginning, in between and at the end.
func TestMergeExamples(t *testing.T) {
	a, b, c, d := stamp(1, 0, 1), stamp(1, 1, 1), stamp(2, 0, 2), stamp(3, 0, 1)
	of := func(l ...api.Stamp) []api.Stamp { return l }
	for _, x := range []struct{ a, b, want []api.Stamp }{
		{nil, nil, nil},
		{of(), of(), nil},
		{of(), of(a), of(a)},
		{of(a, c), nil, of(a, c)},
		{of(a), of(a), of(a)},
		{of(a), of(b), of(a, b)},
		{of(b), of(a), of(a, b)},
		{of(a, c), of(b), of(a, b, c)},
		{of(b), of(a, c), of(a, b, c)},
		{of(a, b), of(b, c), of(a, b, c)},
		{of(a, b, c), of(a, b, c), of(a, b, c)},
		{of(a, d), of(b, c), of(a, b, c, d)},
		{of(a, b), of(c, d), of(a, b, c, d)},
		{of(c, d), of(a, b), of(a, b, c, d)},
		{of(a, c, d), of(d), of(a, c, d)},
		{of(a), of(a, c, d), of(a, c, d)},
	} {
		expectMerged(t, x.a, x.b, x.want, api.OK)
	}
}

// P8.3: a list is valid by the order of its stamps; what campuses may write does not matter, so the numbers of a campus may decrease, and be there twice.
func TestMergeIsAboutOrder(t *testing.T) {
	a := []api.Stamp{stamp(1, 0, 5), stamp(1, 0, 6), stamp(2, 0, 3)}
	b := []api.Stamp{stamp(1, 0, 4), stamp(1, 2, 5), stamp(2, 0, 4), stamp(3, 0, 4)}
	expectMerged(t, a, b, []api.Stamp{b[0], a[0], a[1], b[1], a[2], b[2], b[3]}, api.OK)
	least, most := stamp(1, 0, 1), stamp(mostTime, mostCampus, mostNo)
	expectMerged(t, []api.Stamp{most}, []api.Stamp{least, most}, []api.Stamp{least, most}, api.OK)
}

// P8.3: lists that are not valid are refused, on each side and on both, also where the other one is empty or ends before.
func TestMergeRefuses(t *testing.T) {
	for _, l := range invalid() {
		if isList(l) {
			t.Fatal(l)
		}
		for _, x := range append(invalid(), nil, []api.Stamp{stamp(1, 0, 1)}, []api.Stamp{stamp(9, 0, 9)}) {
			expectMerged(t, l, x, nil, api.ErrStamp)
			expectMerged(t, x, l, nil, api.ErrStamp)
		}
	}
}

// P8.3: all pairs of lists of a few stamps, and many of longer ones.
func TestMergeOfAll(t *testing.T) {
	few := subsets(stamp(1, 0, 1), stamp(1, 0, 2), stamp(1, 1, 1), stamp(2, 0, 1), stamp(mostTime, mostCampus, mostNo))
	for _, l := range [][][]api.Stamp{few, lists(200, 1)} {
		for _, a := range l {
			for _, b := range l {
				expectMerged(t, a, b, list(slices.Concat(a, b)...), api.OK)
			}
		}
	}
}

// P8.3: lists in any order, of which some happen to be valid.
func TestMergeOfAny(t *testing.T) {
	source := rand.New(rand.NewSource(2))
	some := append(all(1, 2), stamp(0, 0, 1), stamp(1, 7, 1), stamp(1, 0, 0))
	someList := func() []api.Stamp {
		var l []api.Stamp
		for range source.Intn(4) {
			l = append(l, some[source.Intn(len(some))])
		}
		return l
	}
	for range 20000 {
		a, b := someList(), someList()
		if isList(a) && isList(b) {
			expectMerged(t, a, b, list(slices.Concat(a, b)...), api.OK)
		} else {
			expectMerged(t, a, b, nil, api.ErrStamp)
		}
	}
}

// P8.3: lists of as many stamps as there can be at two campuses.
func TestMergeOfMany(t *testing.T) {
	var a, b, want []api.Stamp
	for i := range api.MaxNo {
		x, y := stamp(1+i, 1, 1+i), stamp(1+i, 4, 1+i)
		a, b, want = append(a, x), append(b, y), append(want, x, y)
	}
	for _, x := range [][2][]api.Stamp{{a, b}, {b, a}, {want, a}, {b, want}} {
		if l, e := stamps.Merge(x[0], x[1]); !slices.Equal(l, want) || e != api.OK {
			t.Error(len(l), e)
		}
	}
}

// P8.3 and R2: neither arguments nor results are changed, nor the memory behind them.
func TestMergeIsPure(t *testing.T) {
	behind := []api.Stamp{stamp(1, 0, 1), stamp(2, 0, 2), stamp(5, 0, 3), stamp(6, 0, 4)}
	other := []api.Stamp{stamp(2, 0, 2), stamp(3, 1, 1)}
	kept, keptOther := slices.Clone(behind), slices.Clone(other)
	var results, want [][]api.Stamp
	for n := range len(behind) + 1 {
		x, _ := stamps.Merge(behind[:n], other)
		y, _ := stamps.Merge(other, x)
		z, _ := stamps.Merge(x, []api.Stamp{stamp(9, 0, 5)})
		w, _ := stamps.Merge(behind[:n], nil)
		v, _ := stamps.Merge(w, []api.Stamp{stamp(8, 0, 5)})
		both := list(slices.Concat(kept[:n], keptOther)...)
		results = append(results, x, y, z, w, v)
		want = append(want, both, both, append(slices.Clone(both), stamp(9, 0, 5)), kept[:n], append(slices.Clone(kept[:n]), stamp(8, 0, 5)))
	}
	for i, l := range results {
		if !slices.Equal(l, want[i]) {
			t.Error(i, l, want[i])
		}
	}
	if !slices.Equal(behind, kept) || !slices.Equal(other, keptOther) {
		t.Error(behind, other)
	}
}
