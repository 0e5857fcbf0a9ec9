package names_test

import (
	"slices"
	"strings"
	"testing"

	"sizar/api"
	"sizar/names"
)

// P11.1: the chapter's examples.
func TestResolveExamples(t *testing.T) {
	expectResolved(t, api.Catalogue{}, api.Catalogue{}, api.OK)
	expectRefused(t, parsed(t, "course 17 A 4 { } course 17 B 4 { }"), api.ErrTwice)
	expectRefused(t, parsed(t, "course 17 A 4 { bar with B; }"), api.ErrName)
	c := parsed(t, "course 17 MATH1 4 { } course 18 B 4 { need pass MATH1 5; }")
	x, e := names.Resolve(c)
	if need := x.Courses[1].Need; e != api.OK || need.Course != 17 || need.Name != "MATH1" || need.N != 5 {
		t.Error(x, e)
	}
}

const threeCourses = "course 30 C 4 { } course 10 A 4 { } course 20 B 4 { } "

// P11.1: all kinds of references, by name and by number, get the numbers of their courses, and nothing else changes.
func TestResolveReferences(t *testing.T) {
	for _, x := range []struct {
		src  string
		want []int
	}{
		{"course 5 X 4 { need pass A 5; }", []int{10}},
		{"course 5 X 4 { need tries B 5; }", []int{20}},
		{"course 5 X 4 { need with C; }", []int{30}},
		{"course 5 X 4 { bar pass C 5; }", []int{30}},
		{"course 5 X 4 { bar tries B 5; }", []int{20}},
		{"course 5 X 4 { bar with A; }", []int{10}},
		{"course 5 X 4 { bar all { pass X 1; tries X 2; with X; }; }", []int{5, 5, 5}},
		{"course 5 X 4 { need all { pass A 1; any { not tries B 3; least 1 { with C; pass #20 1; }; }; pass #77 1; earn 5; mean 1/2; }; bar not not pass B 1; }", []int{10, 20, 30, 20, 77, 20}},
		{"same A = B; same #77 = C; same A = #20; same #5 = #6; same A = A;", []int{10, 20, 77, 30, 10, 20, 5, 6, 10, 10}},
		{"programme 1 P { take r 5 from B, #44, A; take s 5 from C at 3 home; } programme 2 Q { take r 1 from A; }", []int{20, 44, 10, 30, 10}},
	} {
		for _, src := range []string{threeCourses + x.src, x.src + threeCourses} {
			got, e := names.Resolve(parsed(t, src))
			if e != api.OK || !slices.Equal(numbersOf(got), x.want) {
				t.Error(src, "is", numbersOf(got), e, "instead of", x.want)
			}
			want := parsed(t, src)
			for i, r := range referencesOf(want) {
				*r.number = x.want[i]
			}
			expectResolved(t, parsed(t, src), want, api.OK)
		}
	}
}

// P11.1: the number that a reference by name has before does not matter.
func TestResolveAgainstNumber(t *testing.T) {
	c := parsed(t, threeCourses+"course 5 X 4 { need pass A 5; } same B = C; programme 1 P { take r 5 from A; }")
	for _, r := range referencesOf(c) {
		*r.number = 30
	}
	x, e := names.Resolve(c)
	if e != api.OK || !slices.Equal(numbersOf(x), []int{10, 20, 30, 10}) {
		t.Error(x, e)
	}
}

// P11.1: courses may have any numbers, which references get.
func TestResolveAnyNumber(t *testing.T) {
	for _, n := range []int{0, -1, 4095, 4096, -1 << 63, 1<<63 - 1} {
		c := api.Catalogue{Courses: []api.Course{{Name: "A", Number: n}}, Same: []api.Pair{{A: "A", Y: n}}}
		want := api.Catalogue{Courses: c.Courses, Same: []api.Pair{{A: "A", X: n, Y: n}}}
		expectResolved(t, c, want, api.OK)
	}
}

// P11.1: a part is a reference by its operation alone: other ones keep name and number, and parts of it are parts as well.
func TestResolveOperations(t *testing.T) {
	for op := -1; op <= 11; op++ {
		isReference := op == api.PassR || op == api.TriesR || op == api.WithR
		rule := func(number int) api.Rule {
			return api.Rule{Op: op, Name: "A", Course: number, N: 3, D: 4}
		}
		within := func(number, kid int) api.Rule {
			return api.Rule{Op: op, Course: number, Kids: []api.Rule{{Op: api.EarnR}, {Op: api.WithR, Name: "A", Course: kid}}}
		}
		number := 6
		if isReference {
			number = 10
		}
		of := func(need, bar api.Rule) api.Catalogue {
			return api.Catalogue{Courses: []api.Course{{Number: 1, Need: need, Bar: bar}, {Name: "A", Number: 10}}}
		}
		expectResolved(t, of(rule(6), within(7, 8)), of(rule(number), within(7, 10)), api.OK)
		expectResolved(t, of(within(7, 8), rule(6)), of(within(7, 10), rule(number)), api.OK)
		wanted := of(rule(6), rule(6))
		wanted.Courses[1].Name = "B"
		if isReference {
			expectRefused(t, wanted, api.ErrName)
		} else {
			expectResolved(t, wanted, wanted, api.OK)
		}
	}
}

// P11.1: names and numbers that are there twice, at any two places of a list.
func TestResolveTwice(t *testing.T) {
	for _, l := range [][]string{
		{"course 1 A 1 { }", "course 2 A 1 { }", "course 3 C 1 { }"},
		{"course 1 A 1 { }", "course 1 B 1 { }", "course 3 C 1 { }"},
		{"programme 1 P { }", "programme 2 P { }", "programme 3 R { }"},
		{"programme 1 P { }", "programme 1 Q { }", "programme 3 R { }"},
		{"class x 1 mean 1/1;", "class x 2 mean 1/1;", "class y 1 mean 1/1;"},
		{"fee x 1;", "fee x 2;", "fee y 1;"},
		{"honour x 1 mean 1/1;", "honour x 2 mean 1/1;", "honour y 1 mean 1/1;"},
	} {
		for _, places := range [][]int{{0, 1}, {1, 0}, {0, 0}, {0, 1, 2}, {0, 2, 1}, {2, 0, 1}, {1, 2, 0}, {0, 0, 0}} {
			src := ""
			for _, i := range places {
				src += l[i] + "\n"
			}
			expectRefused(t, parsed(t, src), api.ErrTwice)
		}
		for _, places := range [][]int{{0, 2}, {2, 0}, {2, 1}} {
			c := parsed(t, l[places[0]]+l[places[1]])
			expectResolved(t, c, c, api.OK)
		}
	}
	for _, takes := range []string{"take r 1 from #1; take r 2 from #2;", "take r 1 from #1; take s 1 from #1; take r 1 from #1;"} {
		expectRefused(t, parsed(t, "programme 1 P { "+takes+" }"), api.ErrTwice)
		expectRefused(t, parsed(t, "programme 1 P { } programme 2 Q { "+takes+" }"), api.ErrTwice)
	}
}

// P11.1: the same name or number in other kinds of definitions, and in other programmes.
func TestResolveOnceEach(t *testing.T) {
	for _, src := range []string{
		"course 1 x 1 { } programme 1 x { take x 1 from x; } class x 1 mean 1/1; fee x 1; honour x 1 mean 1/1;",
		"programme 1 P { take r 1 from #1; } programme 2 Q { take r 1 from #1; }",
		"programme 1 P { take r 1 from #1, #1; take s 1 from #1; }",
		"same #1 = #1; same #1 = #1; when fee any keep until 1; when fee any keep until 1;",
		"course 1 a 1 { } course 2 A 1 { }",
	} {
		c := parsed(t, src)
		want := parsed(t, src)
		for _, r := range referencesOf(want) {
			*r.number = 1
		}
		expectResolved(t, c, want, api.OK)
	}
}

// P11.1: an empty name is one as well.
func TestResolveTwiceEmpty(t *testing.T) {
	for _, c := range []api.Catalogue{
		{Courses: []api.Course{{Number: 1}, {Number: 2}}},
		{Programmes: []api.Programme{{Number: 1}, {Number: 2}}},
		{Programmes: []api.Programme{{Requirements: make([]api.Requirement, 2)}}},
		{Classes: make([]api.Class, 2)}, {Fees: make([]api.Fee, 2)}, {Honours: make([]api.Class, 2)},
	} {
		expectRefused(t, c, api.ErrTwice)
	}
	c := api.Catalogue{
		Courses: make([]api.Course, 1), Same: make([]api.Pair, 2), Programmes: []api.Programme{{Requirements: make([]api.Requirement, 1)}},
		Classes: make([]api.Class, 1), Fees: make([]api.Fee, 1), Honours: make([]api.Class, 1), Clauses: make([]api.Clause, 2),
	}
	expectResolved(t, c, c, api.OK)
}

// P11.1: references by name that mean nothing, in each place; those by number may.
func TestResolveName(t *testing.T) {
	for _, src := range []string{
		"course 1 A 1 { need pass ? 1; }", "course 1 A 1 { need tries ? 1; }", "course 1 A 1 { need with ?; }",
		"course 1 A 1 { bar pass ? 1; }", "course 1 A 1 { bar tries ? 1; }", "course 1 A 1 { bar with ?; }",
		"course 1 A 1 { bar all { pass A 1; any { not least 0 { earn 1; with ?; }; }; }; }",
		"course 1 A 1 { } same A = ?;", "course 1 A 1 { } same ? = A;", "same #1 = ?;", "same ? = #1;",
		"course 1 A 1 { } programme 1 P { take r 1 from ?; }",
		"course 1 A 1 { } programme 1 P { take r 1 from A; take P 1 from A, #5, ?; }",
		"course 1 A 1 { } programme 1 B { take B 1 from ?; } class B 1 mean 1/1; fee B 1; honour B 1 mean 1/1;",
	} {
		expectRefused(t, parsed(t, strings.ReplaceAll(src, "?", "B")), api.ErrName)
		expectRefused(t, parsed(t, strings.ReplaceAll(src, "?", "a")), api.ErrName)
		if x, e := names.Resolve(parsed(t, strings.ReplaceAll(src, "?", "#2"))); e != api.OK {
			t.Error(src, x, e)
		}
	}
}

// P11.1: requirements with more names than numbers, or more numbers than names.
func TestResolveLengths(t *testing.T) {
	for count := range 4 {
		for from := range 4 {
			bad := api.Requirement{Name: "bad", Names: make([]string, count), From: make([]int, from)}
			good := api.Requirement{Name: "good", Names: make([]string, 2), From: make([]int, 2)}
			for _, c := range []api.Catalogue{
				{Programmes: []api.Programme{{Requirements: []api.Requirement{bad}}}},
				{Programmes: []api.Programme{{Requirements: []api.Requirement{good, bad}}}},
				{Programmes: []api.Programme{{Number: 1, Requirements: []api.Requirement{good}}, {Name: "P", Requirements: []api.Requirement{bad, good}}}},
			} {
				if count == from {
					expectResolved(t, c, c, api.OK)
				} else {
					expectRefused(t, c, api.ErrArg)
				}
			}
		}
	}
}

// P11.1: courses that need each other; WithR and Bar do not count, NotR does.
func TestResolveCycle(t *testing.T) {
	for _, src := range []string{
		"course 1 A 1 { need pass A 1; }", "course 1 A 1 { need tries A 1; }", "course 1 A 1 { need pass #1 1; }", "course 1 A 1 { need not any { tries #1 1; }; }",
		"course 1 A 1 { need pass B 1; } course 2 B 1 { need pass A 1; }",
		"course 1 A 1 { need pass #2 1; } course 2 B 1 { need tries A 1; }",
		"course 1 A 1 { need pass B 1; } course 2 B 1 { need pass C 1; } course 3 C 1 { need pass D 1; } course 4 D 1 { need not not pass B 1; }",
		"course 1 A 1 { } course 2 B 1 { need all { pass A 1; pass C 1; }; } course 3 C 1 { need least 0 { pass A 1; pass B 1; }; }",
	} {
		expectRefused(t, parsed(t, src), api.ErrCycle)
		for _, other := range []string{strings.ReplaceAll(src, "need", "bar"), withInstead(src)} {
			if x, e := names.Resolve(parsed(t, other)); e != api.OK {
				t.Error(other, x, e)
			}
		}
	}
}

// withInstead returns a source in which each reference of a rule asks for a course in the same term.
func withInstead(src string) string {
	l := strings.Fields(strings.NewReplacer(";", " ; ").Replace(src))
	for i, word := range l {
		if word == "pass" || word == "tries" {
			l[i], l[i+2] = "with", ""
		}
	}
	return strings.Join(l, " ")
}

// P11.1: the first error counts, wherever it is.
func TestResolveErrorsInOrder(t *testing.T) {
	faults := []func(*api.Catalogue){
		func(c *api.Catalogue) {
			c.Programmes[1].Requirements[0].From = nil
		},
		func(c *api.Catalogue) { c.Honours = make([]api.Class, 2) },
		func(c *api.Catalogue) { c.Courses[0].Bar = api.Rule{Op: api.WithR, Name: "nobody"} },
		func(c *api.Catalogue) { c.Courses[0].Need = api.Rule{Op: api.PassR, Name: "A"} },
	}
	errors := []api.Errno{api.ErrArg, api.ErrTwice, api.ErrName, api.ErrCycle, api.OK}
	for set := range 16 {
		c := parsed(t, "course 1 A 1 { } programme 1 P { take r 1 from #1; } programme 2 Q { take r 1 from #1; }")
		first := len(faults)
		for i := len(faults) - 1; i >= 0; i-- {
			if set>>i&1 == 1 {
				faults[i](&c)
				first = i
			}
		}
		if first == len(faults) {
			expectResolved(t, c, c, api.OK)
		} else {
			expectRefused(t, c, errors[first])
		}
	}
}

// P11.1: an error of a kind counts before those of the next kinds also where it stands behind them.
func TestResolveLaterPlaces(t *testing.T) {
	c := parsed(t, "course 1 A 1 { need pass B 1; } course 2 A 1 { } programme 1 P { take r 1 from C; }")
	expectRefused(t, c, api.ErrTwice)
	c.Programmes[0].Requirements[0].Names = nil
	expectRefused(t, c, api.ErrArg)
	expectRefused(t, parsed(t, "course 1 A 1 { need pass A 1; } programme 1 P { take r 1 from C; }"), api.ErrName)
	expectRefused(t, parsed(t, "same C = C; honour x 1 mean 1/1; honour x 1 mean 1/1;"), api.ErrTwice)
	expectRefused(t, parsed(t, "programme 1 P { take r 1 from C; take s 1 from #1; take s 1 from #1; }"), api.ErrTwice)
}

// P11.1: catalogues of all kinds.
func TestResolveOfAll(t *testing.T) {
	count := map[api.Errno]int{}
	for seed := range int64(6000) {
		want := catalogue(seed)
		e := resolve(want)
		count[e]++
		if e != api.OK {
			want = api.Catalogue{}
		}
		expectResolved(t, catalogue(seed), want, e)
	}
	for _, e := range []api.Errno{api.OK, api.ErrArg, api.ErrTwice, api.ErrName, api.ErrCycle} {
		if count[e] < 100 {
			t.Error(count)
		}
	}
}
