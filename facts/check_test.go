package facts_test

import (
	"math"
	"math/rand"
	"slices"
	"testing"

	"sizar/api"
	"sizar/facts"
)

// good returns facts that are valid, at all borders of what is.
func good() []api.Fact {
	return []api.Fact{
		fact(hold, 1, 5, 6, 7, 0),
		fact(api.Key{Kind: 1}, -1, 0, 1, 1, 0),
		fact(api.Key{Kind: 12, Subject: 20000, Object: 20000}, mostValue, 1023, 1024, mostKnown, mostNo),
		fact(api.Key{Kind: 1, Object: 20000}, 0, 0, 1024, 1, mostNo),
		fact(api.Key{Kind: 12, Subject: 20000}, 0, 1022, 1024, mostKnown, 0),
		fact(api.Key{Kind: 2, Subject: 9, Object: 3}, 1, 0, 2, 1, 1),
	}
}

// bad returns facts of which one part alone is not valid.
func bad() []api.Fact {
	var l []api.Fact
	change := func(do func(f *api.Fact, n int), numbers ...int) {
		for _, n := range append(numbers, math.MinInt, math.MaxInt) {
			f := fact(hold, 1, 5, 6, 7, 3)
			do(&f, n)
			l = append(l, f)
		}
	}
	change(func(f *api.Fact, n int) { f.Key.Kind = n }, -1, 0, 13, 14)
	change(func(f *api.Fact, n int) { f.Key.Subject = n }, -2, -1, 20001)
	change(func(f *api.Fact, n int) { f.Key.Object = n }, -2, -1, 20001)
	change(func(f *api.Fact, n int) { f.Value = n }, -3, -2, mostValue+1)
	change(func(f *api.Fact, n int) { f.Valid.From = n }, -1, 6, 7, 1024)
	change(func(f *api.Fact, n int) { f.Valid.To = n }, -1, 0, 4, 5, 1025)
	change(func(f *api.Fact, n int) { f.Valid = api.Span{From: n, To: n} }, 0, 5, 1024)
	change(func(f *api.Fact, n int) { f.Known = n }, -1, 0, mostKnown+1)
	change(func(f *api.Fact, n int) { f.No = n }, -1, mostNo+1)
	return append(l, api.Fact{})
}

func expectChecked(t *testing.T, l []api.Fact, want api.Errno) {
	t.Helper()
	if e := facts.Check(l); e != want {
		t.Error("Check", l, "is", e, "instead of", want)
	}
}

// P7.1: valid facts are accepted, and facts of which one part is not valid are refused, by Check and by Add.
func TestValid(t *testing.T) {
	for _, f := range good() {
		expectChecked(t, []api.Fact{f}, api.OK)
		expectAdded(t, nil, f, api.OK)
	}
	for _, f := range bad() {
		expectChecked(t, []api.Fact{f}, api.ErrFact)
		expectAdded(t, nil, f, api.ErrFact)
	}
}

// P7.1: no list is a valid one, and the kinds of keys are those of package api.
func TestCheckExamples(t *testing.T) {
	expectChecked(t, nil, api.OK)
	expectChecked(t, []api.Fact{}, api.OK)
	expectChecked(t, []api.Fact{{}}, api.ErrFact)
	expectChecked(t, []api.Fact{fact(hold, 1, 5, 6, 7, 0), fact(hold, 1, 5, 6, 7, 1)}, api.OK)
	expectChecked(t, []api.Fact{fact(hold, 1, 5, 6, 7, 0), fact(grade, 1, 5, 6, 7, 0)}, api.ErrOrder)
	for kind := api.CourseK; kind <= api.NumbersK; kind++ {
		expectChecked(t, []api.Fact{fact(api.Key{Kind: kind}, 1, 5, 6, 7, 0)}, api.OK)
	}
}

// P7.1: the order of all lists of two facts, alone and with others around them.
func TestOrder(t *testing.T) {
	first, last := fact(grade, 0, 0, 1, 1, 0), fact(grade, 0, 0, 1, mostKnown, mostNo)
	for _, known := range []int{2, 3, 4} {
		for _, no := range []int{0, 1, 2, mostNo} {
			for _, k := range []api.Key{hold, grade} {
				a, b := fact(hold, 1, 5, 6, 3, 1), fact(k, 2, 5, 6, known, no)
				want := api.ErrOrder
				if isBefore(a, b) {
					want = api.OK
				}
				expectChecked(t, []api.Fact{a, b}, want)
				expectChecked(t, []api.Fact{first, a, b, last}, want)
				expectAdded(t, []api.Fact{a}, b, want)
				expectAdded(t, []api.Fact{first, a}, b, want)
			}
		}
	}
}

// P7.1: a fact that is not valid is reported also where the order is wrong before it.
func TestErrorsInOrder(t *testing.T) {
	one, two := fact(hold, 1, 5, 6, 7, 1), fact(hold, 1, 5, 6, 7, 2)
	for _, f := range bad() {
		expectChecked(t, []api.Fact{one, two, f}, api.ErrFact)
		expectChecked(t, []api.Fact{two, one, f}, api.ErrFact)
		expectChecked(t, []api.Fact{f, two, one}, api.ErrFact)
		expectAdded(t, []api.Fact{two, one}, f, api.ErrOrder)
		expectAdded(t, []api.Fact{one, two}, f, api.ErrFact)
		expectAdded(t, []api.Fact{f}, one, api.ErrFact)
		expectAdded(t, []api.Fact{f, two}, one, api.ErrFact)
	}
	expectAdded(t, []api.Fact{one, one}, two, api.ErrOrder)
	expectAdded(t, []api.Fact{two, one}, fact(hold, 1, 5, 6, 8, 0), api.ErrOrder)
	expectAdded(t, []api.Fact{one}, fact(hold, -2, 5, 6, 7, 1), api.ErrFact)
}

func expectAdded(t *testing.T, l []api.Fact, f api.Fact, want api.Errno) {
	t.Helper()
	x, e := facts.Add(l, f)
	if e != want {
		t.Error("Add", l, f, "is", e, "instead of", want)
	}
	if e != api.OK && x != nil || e == api.OK && !slices.Equal(x, append(slices.Clone(l), f)) {
		t.Error("Add", l, f, "is", x, e)
	}
}

// P7.1: Check and Add of lists of all kinds.
func TestCheckOfAll(t *testing.T) {
	source := rand.New(rand.NewSource(1))
	for _, l := range lists(2000, 2) {
		expectChecked(t, l, checked(l))
		for range 3 {
			f := random(source)
			if len(l) > 0 && source.Intn(2) == 0 {
				f.Known, f.No = l[len(l)-1].Known, l[len(l)-1].No+source.Intn(3)-1
			}
			want := checked(l)
			if want == api.OK {
				want = checked(append(slices.Clone(l), f))
			}
			expectAdded(t, l, f, want)
		}
	}
}

// P7.1: lists grow fact by fact, and Add refuses what Check of the longer list would.
func TestAddGrows(t *testing.T) {
	source := rand.New(rand.NewSource(3))
	for range 300 {
		want := ordered(source)
		var l []api.Fact
		for _, f := range want {
			x, e := facts.Add(l, f)
			if e != api.OK {
				t.Fatal(l, f, e)
			}
			l = x
		}
		if !slices.Equal(l, want) {
			t.Fatal(l, want)
		}
	}
}

// P7.1 and R2: two facts may be added to one list, and to results; none of them is changed, nor the memory behind it.
func TestAddIsPure(t *testing.T) {
	all := []api.Fact{fact(hold, 1, 5, 6, 1, 0), fact(hold, 2, 5, 6, 2, 0), fact(hold, 3, 5, 6, 3, 0), fact(hold, 4, 5, 6, 4, 0)}
	kept := slices.Clone(all)
	f, g := fact(grade, 7, 1, 2, 9, 0), fact(grade, 8, 3, 4, 9, 1)
	for n := range len(all) + 1 {
		x, _ := facts.Add(all[:n], f)
		y, _ := facts.Add(all[:n], g)
		z, _ := facts.Add(x, g)
		w, _ := facts.Add(x, fact(hold, 1, 5, 6, 10, 0))
		for i, want := range [][]api.Fact{{f}, {g}, {f, g}, {f, fact(hold, 1, 5, 6, 10, 0)}} {
			if got := [][]api.Fact{x, y, z, w}[i]; !slices.Equal(got, append(slices.Clone(kept[:n]), want...)) {
				t.Error(n, i, got)
			}
		}
	}
	if !slices.Equal(all, kept) {
		t.Error(all)
	}
}
