package names_test

import (
	"slices"
	"testing"

	"sizar/api"
	"sizar/names"
	"sizar/syntax"
)

// What follows is the chapter's definitions, step by step, without package names.

// partsOf appends the parts of a rule to a list, as pointers into it.
func partsOf(r *api.Rule, l []*api.Rule) []*api.Rule {
	l = append(l, r)
	for i := range r.Kids {
		l = partsOf(&r.Kids[i], l)
	}
	return l
}

// reference is a reference of a catalogue, and where its number stands.
type reference struct {
	name   string
	number *int
}

// referencesOf returns all references of a catalogue whose requirements have as many names as numbers.
func referencesOf(c api.Catalogue) (l []reference) {
	for i := range c.Courses {
		x := &c.Courses[i]
		for _, p := range partsOf(&x.Bar, partsOf(&x.Need, nil)) {
			if slices.Contains([]int{api.PassR, api.TriesR, api.WithR}, p.Op) {
				l = append(l, reference{p.Name, &p.Course})
			}
		}
	}
	for i := range c.Same {
		x := &c.Same[i]
		l = append(l, reference{x.A, &x.X}, reference{x.B, &x.Y})
	}
	for _, p := range c.Programmes {
		for _, r := range p.Requirements {
			for i := range r.From {
				l = append(l, reference{r.Names[i], &r.From[i]})
			}
		}
	}
	return l
}

// numbersOf returns the numbers of all references.
func numbersOf(c api.Catalogue) (l []int) {
	for _, r := range referencesOf(c) {
		l = append(l, *r.number)
	}
	return l
}

// meant returns the place of the course that a reference means, or -1.
func meant(c api.Catalogue, name string, number int) int {
	for i, x := range c.Courses {
		if name != "" && x.Name == name || name == "" && x.Number == number {
			return i
		}
	}
	return -1
}

// neededBy returns the places of the courses that a course needs, in the order of the parts that mean them.
func neededBy(c api.Catalogue, place int) (l []int) {
	for _, p := range partsOf(&c.Courses[place].Need, nil) {
		if p.Op != api.PassR && p.Op != api.TriesR {
			continue
		}
		if i := meant(c, p.Name, p.Course); i >= 0 {
			l = append(l, i)
		}
	}
	return l
}

// isTwice reports whether two definitions of a list have the same name or, unless it is negative, the same number.
func isTwice[T any](l []T, of func(T) (name string, number int)) bool {
	for i, x := range l {
		for _, y := range l[:i] {
			a, m := of(x)
			b, n := of(y)
			if a == b || m == n && m != unnumbered {
				return true
			}
		}
	}
	return false
}

// unnumbered stands for the number of what has none; no random catalogue contains it.
const unnumbered = -1 << 50

func hasTwice(c api.Catalogue) bool {
	class := func(x api.Class) (string, int) { return x.Name, unnumbered }
	for _, p := range c.Programmes {
		if isTwice(p.Requirements, func(x api.Requirement) (string, int) { return x.Name, unnumbered }) {
			return true
		}
	}
	return isTwice(c.Courses, func(x api.Course) (string, int) { return x.Name, x.Number }) ||
		isTwice(c.Programmes, func(x api.Programme) (string, int) { return x.Name, x.Number }) ||
		isTwice(c.Classes, class) || isTwice(c.Honours, class) ||
		isTwice(c.Fees, func(x api.Fee) (string, int) { return x.Name, unnumbered })
}

// hasCircle reports whether a course can be reached from itself.
func hasCircle(c api.Catalogue) bool {
	var reached [][]bool
	for i := range c.Courses {
		reached = append(reached, make([]bool, len(c.Courses)))
		for _, k := range neededBy(c, i) {
			reached[i][k] = true
		}
	}
	for via := range reached {
		for from := range reached {
			for to := range reached {
				reached[from][to] = reached[from][to] || reached[from][via] && reached[via][to]
			}
		}
	}
	for i := range reached {
		if reached[i][i] {
			return true
		}
	}
	return false
}

// resolve fills in the numbers of a catalogue, unless it returns an error.
func resolve(c api.Catalogue) api.Errno {
	for _, p := range c.Programmes {
		for _, r := range p.Requirements {
			if len(r.Names) != len(r.From) {
				return api.ErrArg
			}
		}
	}
	if hasTwice(c) {
		return api.ErrTwice
	}
	l := referencesOf(c)
	for _, r := range l {
		if r.name != "" && meant(c, r.name, 0) < 0 {
			return api.ErrName
		}
	}
	if hasCircle(c) {
		return api.ErrCycle
	}
	for _, r := range l {
		if r.name != "" {
			*r.number = c.Courses[meant(c, r.name, 0)].Number
		}
	}
	return api.OK
}

// listed returns the places of the courses in the order in which they are listed.
func listed(c api.Catalogue) (places []int) {
	isListed := func(place int) bool { return slices.Contains(places, place) }
	for found := true; found; {
		found = false
		for i := range c.Courses {
			unlisted := slices.ContainsFunc(neededBy(c, i), func(k int) bool { return !isListed(k) })
			if !isListed(i) && !unlisted {
				places = append(places, i)
				found = true
				break
			}
		}
	}
	return places
}

func numbersAt(c api.Catalogue, places []int) (l []int) {
	for _, i := range places {
		l = append(l, c.Courses[i].Number)
	}
	return l
}

func order(c api.Catalogue) ([]int, api.Errno) {
	l := listed(c)
	if len(l) < len(c.Courses) {
		return nil, api.ErrCycle
	}
	return numbersAt(c, l), api.OK
}

// circle returns the places of the courses of Cycle.
func circle(c api.Catalogue) (path []int) {
	done := listed(c)
	isOpen := func(place int) bool { return !slices.Contains(done, place) }
	place := 0
	for place < len(c.Courses) && !isOpen(place) {
		place++
	}
	if place == len(c.Courses) {
		return nil
	}
	for !slices.Contains(path, place) {
		path = append(path, place)
		l := neededBy(c, place)
		place = l[slices.IndexFunc(l, isOpen)]
	}
	return path[slices.Index(path, place):]
}

// parsed returns the catalogue of a source.
func parsed(t *testing.T, src string) api.Catalogue {
	t.Helper()
	c, at, e := syntax.Parse(src)
	if e != api.OK {
		t.Fatalf("%q: %d, %d", src, at, e)
	}
	return c
}

func expectResolved(t *testing.T, c, want api.Catalogue, wantE api.Errno) {
	t.Helper()
	if x, e := names.Resolve(c); e != wantE || !syntax.Same(x, want) {
		t.Fatal("Resolve", c, "is", x, e, "instead of", want, wantE)
	}
}

// expectRefused is about the error of Resolve, with which there is no catalogue.
func expectRefused(t *testing.T, c api.Catalogue, e api.Errno) {
	t.Helper()
	expectResolved(t, c, api.Catalogue{}, e)
}

func expectFound(t *testing.T, c api.Catalogue, name string, want int, found bool) {
	t.Helper()
	if n, ok := names.Find(c, name); n != want || ok != found {
		t.Fatal("Find", c, name, "is", n, ok, "instead of", want, found)
	}
}

// expectListed is about a catalogue whose courses have an order, and so no circle.
func expectListed(t *testing.T, c api.Catalogue, want ...int) {
	t.Helper()
	if l, e := names.Order(c); e != api.OK || !slices.Equal(l, want) {
		t.Fatal("Order", c, "is", l, e, "instead of", want)
	}
	if l := names.Cycle(c); len(l) > 0 {
		t.Fatal("Cycle", c, "is", l)
	}
}

// expectCircle is about a catalogue whose courses have a circle, and so no order.
func expectCircle(t *testing.T, c api.Catalogue, want ...int) {
	t.Helper()
	if l := names.Cycle(c); !slices.Equal(l, want) {
		t.Fatal("Cycle", c, "is", l, "instead of", want)
	}
	if l, e := names.Order(c); e != api.ErrCycle || len(l) > 0 {
		t.Fatal("Order", c, "is", l, e)
	}
}
