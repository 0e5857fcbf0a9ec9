package names_test

import (
	"math/rand"
	"slices"
	"sync"
	"testing"

	"sizar/api"
	"sizar/names"
	"sizar/syntax"
)

// P11.4: a catalogue that was resolved is resolved again to itself.
func TestResolveAgain(t *testing.T) {
	resolved := 0
	for seed := range int64(4000) {
		if x, e := names.Resolve(catalogue(seed)); e == api.OK {
			resolved++
			expectResolved(t, x, x, api.OK)
		}
	}
	if resolved < 1000 {
		t.Error(resolved)
	}
}

// P11.4: Order returns each course once, after all courses that it needs.
func TestOrderIsOne(t *testing.T) {
	for seed := range int64(4000) {
		c := catalogue(seed)
		l, e := names.Order(c)
		if e != api.OK || hasTwice(c) {
			continue
		}
		if len(l) != len(c.Courses) {
			t.Fatal(c, l)
		}
		for i, x := range c.Courses {
			place := slices.Index(l, x.Number)
			for _, k := range neededBy(c, i) {
				if before := slices.Index(l, c.Courses[k].Number); before < 0 || before >= place {
					t.Fatal(c, l, x.Number)
				}
			}
		}
	}
}

// P11.4: each course of a circle needs the next one, and the last one the first; no course is there twice.
func TestCycleIsOne(t *testing.T) {
	for seed := range int64(4000) {
		c := catalogue(seed)
		l := names.Cycle(c)
		if len(l) == 0 || hasTwice(c) {
			continue
		}
		for i, number := range l {
			next := meant(c, "", l[(i+1)%len(l)])
			if !slices.Contains(neededBy(c, meant(c, "", number)), next) || slices.Contains(l[:i], number) {
				t.Fatal(c, l)
			}
		}
	}
}

// P11.4: there is a circle exactly if there is no order.
func TestOrderOrCycle(t *testing.T) {
	for seed := range int64(4000) {
		c := catalogue(seed)
		_, e := names.Order(c)
		if (e == api.OK) != (len(names.Cycle(c)) == 0) || (e == api.OK) == hasCircle(c) {
			t.Fatal(c, e)
		}
		if x, f := names.Resolve(c); f == api.OK && e != api.OK {
			t.Fatal(c, x)
		}
	}
}

// shuffled returns a list in another order, and which element is at each place.
func shuffled[T any](r *rand.Rand, l []T) (x []T, from []int) {
	from = r.Perm(len(l))
	for _, i := range from {
		x = append(x, l[i])
	}
	return x, from
}

// P11.4: the order in which definitions stand has no effect on whether a catalogue is resolved, and on the numbers of references.
func TestResolveInAnyOrder(t *testing.T) {
	r := rand.New(rand.NewSource(1))
	for seed := range int64(4000) {
		c := catalogue(seed)
		want, e := names.Resolve(c)
		y := c
		var courses, same, programmes []int
		y.Courses, courses = shuffled(r, c.Courses)
		y.Same, same = shuffled(r, c.Same)
		y.Programmes, programmes = shuffled(r, c.Programmes)
		y.Classes, _ = shuffled(r, c.Classes)
		y.Fees, _ = shuffled(r, c.Fees)
		y.Honours, _ = shuffled(r, c.Honours)
		y.Clauses, _ = shuffled(r, c.Clauses)
		x, f := names.Resolve(y)
		if e != f {
			t.Fatal(c, e, y, f)
		}
		if e != api.OK {
			continue
		}
		back := want
		back.Courses, back.Same, back.Programmes = make([]api.Course, len(courses)), make([]api.Pair, len(same)), make([]api.Programme, len(programmes))
		for i, k := range courses {
			back.Courses[k] = x.Courses[i]
		}
		for i, k := range same {
			back.Same[k] = x.Same[i]
		}
		for i, k := range programmes {
			back.Programmes[k] = x.Programmes[i]
		}
		if !syntax.Same(back, want) {
			t.Fatal(c, want, y, x)
		}
	}
}

// P11.1 to P11.3 (R2, R6): arguments stay as they are, and equal calls return equal results, also at the same time.
func TestPurity(t *testing.T) {
	for seed := range int64(300) {
		c := catalogue(seed)
		x, e := names.Resolve(c)
		l, f := names.Order(c)
		circle := names.Cycle(c)
		var calls sync.WaitGroup
		for range 3 {
			calls.Go(func() {
				y, e2 := names.Resolve(c)
				m, f2 := names.Order(c)
				if !syntax.Same(x, y) || e != e2 || !slices.Equal(l, m) || f != f2 || !slices.Equal(circle, names.Cycle(c)) {
					t.Error(c)
				}
			})
		}
		calls.Wait()
		if !syntax.Same(c, catalogue(seed)) {
			t.Fatal(c)
		}
		want := catalogue(seed)
		if resolve(want) == api.OK && !syntax.Same(x, want) {
			t.Fatal(x)
		}
	}
}

// P11.1 (R3): nil and empty lists are equivalent.
func TestEmpty(t *testing.T) {
	empty := api.Rule{Kids: []api.Rule{}}
	c := api.Catalogue{
		Courses: []api.Course{{Name: "A", Need: empty, Bar: empty}}, Same: []api.Pair{},
		Programmes: []api.Programme{{Requirements: []api.Requirement{{Name: "r", Names: []string{}}, {Name: "s", From: []int{}}}}},
		Classes:    []api.Class{}, Fees: []api.Fee{}, Honours: []api.Class{}, Clauses: []api.Clause{},
	}
	expectResolved(t, c, c, api.OK)
	expectListed(t, c, 0)
	expectListed(t, api.Catalogue{Courses: []api.Course{}})
}
