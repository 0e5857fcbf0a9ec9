package names

import (
	"slices"

	"sizar/api"
)

// lookup finds courses by name and by number. A course is known by its place in the list, since numbers may be there twice.
type lookup struct {
	courses  []api.Course
	byName   map[string]int
	byNumber map[int]int
}

func lookupOf(c api.Catalogue) lookup {
	l := lookup{c.Courses, map[string]int{}, map[int]int{}}
	// From the last to the first, so that the first one of several counts.
	for place, x := range slices.Backward(c.Courses) {
		l.byName[x.Name] = place
		l.byNumber[x.Number] = place
	}
	return l
}

// means returns the course that a reference means.
func (l lookup) means(name string, number int) (place int, ok bool) {
	if name == "" {
		place, ok = l.byNumber[number]
	} else {
		place, ok = l.byName[name]
	}
	return place, ok
}

// number returns what becomes the number of a reference.
func (l lookup) number(name string, number int) int {
	if name == "" {
		return number
	}
	place, ok := l.means(name, number)
	require(ok, api.ErrName)
	return l.courses[place].Number
}

// numbers returns the numbers of the courses at some places.
func (l lookup) numbers(places []int) (n []int) {
	for _, place := range places {
		n = append(n, l.courses[place].Number)
	}
	return n
}

// each returns a copy of a list in which each element is what a function makes of it.
func each[T any](l []T, of func(T) T) []T {
	l = slices.Clone(l)
	for i, x := range l {
		l[i] = of(x)
	}
	return l
}

// catalogue and the methods below return a definition with the numbers of its references.
func (l lookup) catalogue(c api.Catalogue) api.Catalogue {
	c.Courses = each(c.Courses, l.course)
	c.Same = each(c.Same, l.pair)
	c.Programmes = each(c.Programmes, l.programme)
	return c
}

func (l lookup) course(c api.Course) api.Course {
	c.Need, c.Bar = l.rule(c.Need), l.rule(c.Bar)
	return c
}

func (l lookup) rule(r api.Rule) api.Rule {
	if r.Op == api.PassR || r.Op == api.TriesR || r.Op == api.WithR {
		r.Course = l.number(r.Name, r.Course)
	}
	r.Kids = each(r.Kids, l.rule)
	return r
}

func (l lookup) pair(p api.Pair) api.Pair {
	p.X, p.Y = l.number(p.A, p.X), l.number(p.B, p.Y)
	return p
}

func (l lookup) programme(p api.Programme) api.Programme {
	p.Requirements = each(p.Requirements, l.requirement)
	return p
}

func (l lookup) requirement(r api.Requirement) api.Requirement {
	r.From = slices.Clone(r.From)
	for i, name := range r.Names {
		r.From[i] = l.number(name, r.From[i])
	}
	return r
}
