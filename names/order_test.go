package names_test

import (
	"slices"
	"strings"
	"testing"

	"sizar/api"
	"sizar/names"
)

// P11.3: the chapter's examples.
func TestOrderExamples(t *testing.T) {
	expectListed(t, api.Catalogue{})
	expectCircle(t, parsed(t, "course 17 A 4 { need pass A 1; }"), 17)
}

// P11.3: courses are listed as soon as they can be, the first one first.
func TestOrder(t *testing.T) {
	for _, x := range []struct {
		src  string
		want []int
	}{
		{"course 5 A 1 { }", []int{5}},
		{"course 5 A 1 { } course 3 B 1 { } course 4 C 1 { }", []int{5, 3, 4}},
		{"course 1 A 1 { need pass B 1; } course 2 B 1 { }", []int{2, 1}},
		{"course 1 A 1 { need pass B 1; } course 2 B 1 { need tries C 1; } course 3 C 1 { }", []int{3, 2, 1}},
		{"course 1 A 1 { need pass C 1; } course 2 B 1 { } course 3 C 1 { } course 4 D 1 { }", []int{2, 3, 1, 4}},
		{"course 1 A 1 { need pass D 1; } course 2 B 1 { need pass C 1; } course 3 C 1 { } course 4 D 1 { }", []int{3, 2, 4, 1}},
		{"course 1 A 1 { need pass D 1; } course 2 B 1 { need pass D 1; } course 3 C 1 { need pass D 1; } course 4 D 1 { }", []int{4, 1, 2, 3}},
		{"course 1 A 1 { need all { pass B 1; pass C 1; pass B 1; }; } course 2 B 1 { } course 3 C 1 { }", []int{2, 3, 1}},
		{"course 1 A 1 { need all { pass #3 1; tries #2 1; }; } course 2 B 1 { need not pass #3 1; } course 3 C 1 { }", []int{3, 2, 1}},
	} {
		expectListed(t, parsed(t, x.src), x.want...)
	}
}

// P11.3: which parts count: those of Need, with PassR or TriesR, wherever they stand, that mean a course.
func TestOrderParts(t *testing.T) {
	for _, part := range []string{"pass B 1", "tries B 1", "pass #2 1", "tries #2 9", "not pass B 1", "all { earn 1; any { least 0 { tries B 1; }; }; }"} {
		expectListed(t, parsed(t, "course 1 A 1 { need "+part+"; } course 2 B 1 { }"), 2, 1)
	}
	for _, part := range []string{"with B", "with #2", "pass C 1", "pass b 1", "tries #3 1", "earn 2", "mean 2/1"} {
		expectListed(t, parsed(t, "course 1 A 1 { need "+part+"; } course 2 B 1 { }"), 1, 2)
	}
	for _, part := range []string{"pass B 1", "tries B 1", "pass #2 1"} {
		expectListed(t, parsed(t, "course 1 A 1 { bar "+part+"; } course 2 B 1 { }"), 1, 2)
	}
	for op := -1; op <= 11; op++ {
		want := []int{1, 2}
		if op == api.PassR || op == api.TriesR {
			want = []int{2, 1}
		}
		of := func(need api.Rule) api.Catalogue {
			return api.Catalogue{Courses: []api.Course{{Name: "A", Number: 1, Need: need}, {Name: "B", Number: 2}}}
		}
		expectListed(t, of(api.Rule{Op: op, Name: "B"}), want...)
		expectListed(t, of(api.Rule{Op: op, Course: 2}), want...)
		expectListed(t, of(api.Rule{Op: op, Name: "C", Course: 2}), 1, 2)
		expectListed(t, of(api.Rule{Op: op, Kids: []api.Rule{{}, {Op: api.PassR, Name: "B"}}}), 2, 1)
	}
}

// P11.3: names and numbers that several courses have mean the first one of them.
func TestOrderTwice(t *testing.T) {
	of := func(courses ...api.Course) api.Catalogue { return api.Catalogue{Courses: courses} }
	pass := func(name string, number int) api.Rule {
		return api.Rule{Op: api.PassR, Name: name, Course: number}
	}
	a, b := api.Course{Name: "A", Number: 1}, api.Course{Name: "B", Number: 1}
	needsB := api.Course{Name: "A", Number: 2, Need: pass("B", 0)}
	needsOne := api.Course{Name: "C", Number: 3, Need: pass("", 1)}
	expectListed(t, of(a, a, a), 1, 1, 1)
	expectListed(t, of(needsB, a, b), 1, 1, 2)
	expectListed(t, of(needsOne, a, b, a), 1, 3, 1, 1)
	expectListed(t, of(b, needsB, needsOne, a), 1, 2, 3, 1)
	// The first course with the name A needs itself by name, and nobody needs the second one.
	itself := api.Course{Name: "A", Number: 5, Need: pass("A", 1)}
	expectCircle(t, of(itself, a), 5)
	expectListed(t, of(a, itself), 1, 5)
	// Courses in a circle may have one number.
	expectCircle(t, of(api.Course{Name: "X", Number: 4, Need: pass("Y", 0)}, api.Course{Name: "Y", Number: 4, Need: pass("X", 0)}), 4, 4)
	// A reference by number never means a course by its empty name, and one by name never by its number.
	expectListed(t, of(api.Course{Number: 7, Need: pass("", 8)}, api.Course{Number: 8, Need: pass("Z", 7)}), 8, 7)
}

// P11.3: where Cycle begins, and where it goes on.
func TestCycle(t *testing.T) {
	for _, x := range []struct {
		src  string
		want []int
	}{
		{"course 1 A 1 { need pass B 1; } course 2 B 1 { need pass A 1; }", []int{1, 2}},
		{"course 2 B 1 { need pass A 1; } course 1 A 1 { need pass B 1; }", []int{2, 1}},
		{"course 1 A 1 { need pass B 1; } course 2 B 1 { need pass B 1; }", []int{2}},
		{"course 1 A 1 { need pass C 1; } course 2 B 1 { } course 3 C 1 { need all { pass B 1; not tries D 1; }; } course 4 D 1 { need pass #3 1; }", []int{3, 4}},
		{"course 1 A 1 { need all { pass C 1; pass B 1; }; } course 2 B 1 { need pass B 1; } course 3 C 1 { need pass A 1; }", []int{1, 3}},
		{"course 1 A 1 { need all { pass B 1; pass C 1; }; } course 2 B 1 { need pass B 1; } course 3 C 1 { need pass A 1; }", []int{2}},
		{"course 1 A 1 { } course 2 B 1 { need all { with C; pass Z 1; pass A 1; not all { pass C 1; pass D 1; }; }; bar pass D 1; } course 3 C 1 { need pass D 1; } course 4 D 1 { need pass C 1; }", []int{3, 4}},
		{"course 1 A 1 { need pass B 1; } course 2 B 1 { need pass C 1; } course 3 C 1 { need pass D 1; } course 4 D 1 { need pass E 1; } course 5 E 1 { need any { pass C 1; pass A 1; }; }", []int{3, 4, 5}},
		{"course 1 A 1 { need pass B 1; } course 2 B 1 { need pass C 1; } course 3 C 1 { need pass D 1; } course 4 D 1 { need pass E 1; } course 5 E 1 { need any { pass A 1; pass C 1; }; }", []int{1, 2, 3, 4, 5}},
		{"course 9 X 1 { need pass Y 1; } course 8 Y 1 { } course 1 A 1 { need pass B 1; } course 2 B 1 { need pass #9 1; } course 3 C 1 { need any { pass A 1; pass C 1; }; }", []int{3}},
	} {
		expectCircle(t, parsed(t, x.src), x.want...)
	}
}

// P11.3: catalogues of all kinds, also such that are not resolved.
func TestOrderOfAll(t *testing.T) {
	circles := map[int]int{}
	for seed := range int64(6000) {
		c := catalogue(seed)
		want, e := order(c)
		if e == api.OK {
			expectListed(t, c, want...)
		} else {
			expectCircle(t, c, numbersAt(c, circle(c))...)
		}
		circles[len(circle(c))]++
	}
	if circles[0] < 1000 || circles[1] < 100 || circles[2] < 100 || circles[3] < 20 {
		t.Error(circles)
	}
}

// P11.1, P11.3: all ways in which four courses may need each other.
func TestOrderOfFour(t *testing.T) {
	for set := range 1 << 16 {
		var c api.Catalogue
		for i := range 4 {
			x := api.Course{Name: "ABCD"[i : i+1], Number: i}
			for k := range 4 {
				if set>>(4*i+k)&1 == 1 {
					x.Need.Kids = append(x.Need.Kids, api.Rule{Op: api.PassR, Name: "ABCD"[k : k+1], Course: k})
				}
			}
			c.Courses = append(c.Courses, x)
		}
		if want, e := order(c); e == api.OK {
			expectListed(t, c, want...)
			expectResolved(t, c, c, api.OK)
		} else {
			expectCircle(t, c, numbersAt(c, circle(c))...)
			expectRefused(t, c, api.ErrCycle)
		}
	}
}

// chain returns courses each of which needs the next one; the last one needs the course of a number.
func chain(n, number int) (c api.Catalogue) {
	for i := range n {
		need := api.Rule{Op: api.PassR, Course: i + 1}
		if i == n-1 {
			need.Course = number
		}
		c.Courses = append(c.Courses, api.Course{Name: strings.Repeat("x", i%7) + string(rune(1000+i/7)), Number: i, Need: need})
	}
	return c
}

// P11.1, P11.3: many courses, in a chain and in a circle.
func TestOrderOfMany(t *testing.T) {
	const n = 200000
	var want []int
	for i := range n {
		want = append(want, n-1-i)
	}
	c := chain(n, -1)
	if l, e := names.Order(c); e != api.OK || !slices.Equal(l, want) || len(names.Cycle(c)) > 0 {
		t.Error(len(l), e)
	}
	if x, e := names.Resolve(c); e != api.OK || len(x.Courses) != n {
		t.Error(len(x.Courses), e)
	}
	slices.Reverse(want)
	c = chain(n, 7)
	if l, e := names.Order(c); e != api.ErrCycle || len(l) > 0 || !slices.Equal(names.Cycle(c), want[7:]) {
		t.Error(len(l), e)
	}
	if x, e := names.Resolve(c); e != api.ErrCycle || len(x.Courses) > 0 {
		t.Error(len(x.Courses), e)
	}
	for i := range c.Courses {
		c.Courses[i].Need = api.Rule{}
	}
	if l, e := names.Order(c); e != api.OK || !slices.Equal(l, want) {
		t.Error(len(l), e)
	}
}

// P11.1, P11.3: a rule that is as deep as R7 admits, and one with many parts.
func TestDeep(t *testing.T) {
	deep := api.Rule{Op: api.TriesR, Name: "B"}
	for range 65000 {
		deep = api.Rule{Op: api.NotR, Kids: []api.Rule{deep}}
	}
	wide := api.Rule{Op: api.AnyR}
	for range 100000 {
		wide.Kids = append(wide.Kids, api.Rule{Op: api.PassR, Name: "B"})
	}
	for _, r := range []api.Rule{deep, wide} {
		c := api.Catalogue{Courses: []api.Course{{Name: "A", Number: 1, Need: r, Bar: r}, {Name: "B", Number: 2}}}
		x, e := names.Resolve(c)
		if e != api.OK || slices.ContainsFunc(numbersOf(x), func(n int) bool { return n != 2 }) {
			t.Error(e)
		}
		l, e := names.Order(c)
		if e != api.OK || !slices.Equal(l, []int{2, 1}) || len(names.Cycle(c)) > 0 {
			t.Error(l, e)
		}
		c.Courses[0].Name, c.Courses[1].Name = "B", "A"
		if x, e := names.Resolve(c); e != api.ErrCycle || len(x.Courses) > 0 || !slices.Equal(names.Cycle(c), []int{1}) {
			t.Error(e)
		}
	}
}
