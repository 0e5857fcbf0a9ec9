package syntax_test

import (
	"math/rand"
	"strings"
	"testing"

	"sizar/api"
	"sizar/syntax"
)

// expectPrinted expects a source, or for an empty one that the catalogue is not printable.
func expectPrinted(t *testing.T, c api.Catalogue, want string) {
	t.Helper()
	e := api.OK
	if want == "" {
		e = api.ErrSyntax
	}
	if s, f := syntax.Print(c); s != want || f != e {
		t.Fatalf("%v: %q, %d instead of %q", c, shown(s), f, shown(want))
	}
}

func expectRulePrinted(t *testing.T, r api.Rule, want string) {
	t.Helper()
	e := api.OK
	if want == "" {
		e = api.ErrSyntax
	}
	if s, f := syntax.PrintRule(r); s != want || f != e {
		t.Fatalf("%v: %q, %d instead of %q", r, shown(s), f, shown(want))
	}
}

// expectPrintedAsDefined reports whether the catalogue is printable.
func expectPrintedAsDefined(t *testing.T, c api.Catalogue) bool {
	t.Helper()
	_, ok := readBack(c)
	want := ""
	if ok {
		want = strings.TrimPrefix(printed(c), " ")
	}
	if want == "" && ok {
		s, e := syntax.Print(c)
		if s != "" || e != api.OK {
			t.Fatal(s, e)
		}
		return true
	}
	expectPrinted(t, c, want)
	return ok
}

// oneOfEach is a catalogue with all that can be left out.
func oneOfEach() api.Catalogue {
	return api.Catalogue{
		Courses: []api.Course{{Name: "A", Number: 1, Credits: 2, Repeat: api.LastA, Need: group(api.LeastR, 1,
			named(api.PassR, "B", 3), named(api.TriesR, "C", 4), named(api.EarnR, "", 5), api.Rule{Op: api.MeanR, N: 7, D: 2}, api.Rule{Op: api.WithR, Course: 9}, group(api.NotR, 0, group(api.AnyR, 0)), group(api.AllR, 0),
		), Bar: group(api.AnyR, 0, group(api.AllR, 0))}},
		Same: []api.Pair{{A: "A", Y: 5}},
		Programmes: []api.Programme{{Name: "P", Number: 6, Uses: 2, Earn: 7, Mean: api.Ratio{Num: 5, Den: 3}, Requirements: []api.Requirement{
			{Name: "q", Credits: 8, Grade: 0, Home: true, Names: []string{"A", "", "B"}, From: []int{0, 9, 0}},
		}}},
		Classes: []api.Class{{Name: "k", Earn: 10, Mean: api.Ratio{Num: 1, Den: 3}}},
		Fees:    []api.Fee{{Name: "f", Credits: 11}},
		Honours: []api.Class{{Name: "h", Earn: 12, Mean: api.Ratio{Num: 12, Den: 1}}},
		Clauses: []api.Clause{{Kind: api.FeeD, When: api.DownC, Action: api.ReopenC, Until: 3}},
	}
}

// P10.2: the chapter's examples.
func TestPrintExamples(t *testing.T) {
	expectRulePrinted(t, api.Rule{Op: api.AllR}, "all { }")
	expectRulePrinted(t, api.Rule{}, "")
	if s, e := syntax.Print(api.Catalogue{}); s != "" || e != api.OK {
		t.Error(s, e)
	}
}

// P10.2: all that a catalogue may contain, in the order of Print.
func TestPrintAll(t *testing.T) {
	expectPrinted(t, oneOfEach(), "course 1 A 2 last { need least 1 { pass B 3 ; tries C 4 ; earn 5 ; mean 7 / 2 ; with # 9 ; not any { } ; all { } ; } ; bar any { all { } ; } ; } "+
		"same A = # 5 ; programme 6 P { uses 2 ; earn 7 ; mean 5 / 3 ; take q 8 from A , # 9 , B at 0 home ; } class k 10 mean 1 / 3 ; fee f 11 ; honour h 12 mean 12 / 1 ; when fee down reopen until 3 ;")
}

// P10.2: what is optional is left out if it is as without it, and only then.
func TestOptionalParts(t *testing.T) {
	all, any := group(api.AllR, 0), group(api.AnyR, 0)
	for want, x := range map[string]api.Course{
		"course 0 A 1 { }":                                  {Need: all, Bar: any},
		"course 0 A 1 last { }":                             {Repeat: api.LastA, Need: all, Bar: any},
		"course 0 A 1 each { }":                             {Repeat: api.EachA, Need: all, Bar: any},
		"course 0 A 1 { need any { } ; bar all { } ; }":     {Need: any, Bar: all},
		"course 0 A 1 { need all { any { } ; } ; }":         {Need: group(api.AllR, 0, any), Bar: any},
		"course 0 A 1 { bar any { any { } ; } ; }":          {Need: all, Bar: group(api.AnyR, 0, any)},
		"course 0 A 1 { need least 0 { } ; }":               {Need: group(api.LeastR, 0), Bar: any},
		"course 0 A 1 { need not any { } ; bar earn 0 ; }":  {Need: group(api.NotR, 0, any), Bar: named(api.EarnR, "", 0)},
		"course 0 A 1 { need mean 0 / 1 ; bar with # 0 ; }": {Need: api.Rule{Op: api.MeanR, D: 1}, Bar: named(api.WithR, "", 0)},
	} {
		x.Name, x.Credits = "A", 1
		expectPrinted(t, api.Catalogue{Courses: []api.Course{x}}, want)
	}
	zero := api.Ratio{Num: 0, Den: 1}
	for want, x := range map[string]api.Programme{
		"programme 0 P { }":                   {Uses: 1, Mean: zero},
		"programme 0 P { uses 2 ; }":          {Uses: 2, Mean: zero},
		"programme 0 P { earn 1 ; }":          {Uses: 1, Earn: 1, Mean: zero},
		"programme 0 P { mean 1 / 1000 ; }":   {Uses: 1, Mean: api.Ratio{Num: 1, Den: 1000}},
		"programme 0 P { mean 1 / 1 ; }":      {Uses: 1, Mean: api.Ratio{Num: 1, Den: 1}},
		"programme 0 P { uses 4 ; earn 3 ; }": {Uses: 4, Earn: 3, Mean: zero},
	} {
		x.Name = "P"
		expectPrinted(t, api.Catalogue{Programmes: []api.Programme{x}}, want)
	}
	for want, x := range map[string]api.Requirement{
		"take q 1 from A ;":            {Grade: 1, Names: []string{"A"}, From: []int{0}},
		"take q 1 from A at 0 ;":       {Grade: 0, Names: []string{"A"}, From: []int{7}},
		"take q 1 from # 7 at 2 ;":     {Grade: 2, Names: []string{""}, From: []int{7}},
		"take q 1 from # 0 home ;":     {Grade: 1, Home: true, Names: []string{""}, From: []int{0}},
		"take q 1 from A , A , # 7 ;":  {Grade: 1, Names: []string{"A", "A", ""}, From: []int{7, 0, 7}},
		"take q 1 from A at 12 home ;": {Grade: 12, Home: true, Names: []string{"A"}, From: []int{4095}},
	} {
		x.Name, x.Credits = "q", 1
		expectPrinted(t, api.Catalogue{Programmes: []api.Programme{{Name: "P", Uses: 1, Mean: zero, Requirements: []api.Requirement{x}}}}, "programme 0 P { "+want+" }")
	}
}

// P10.2: a reference with a name is printed as its name, but its number must be in range.
func TestReferences(t *testing.T) {
	for _, x := range []struct {
		name   string
		number int
		want   string
	}{
		{"a", 0, "a"}, {"a", 4095, "a"}, {"", 0, "# 0"}, {"", 4095, "# 4095"}, {"all", 7, "all"},
		{"a", 4096, ""}, {"a", -1, ""}, {"", 4096, ""}, {"", -1, ""}, {"_", 0, ""}, {"a b", 0, ""}, {"#", 5, ""}, {"5", 5, ""}, {strings.Repeat("a", 33), 5, ""}, {"a", 1 << 62, ""}, {"a", -1 << 63, ""},
	} {
		rule := func(op, n int) api.Rule { return api.Rule{Op: op, Name: x.name, Course: x.number, N: n} }
		for want, r := range map[string]api.Rule{"pass X 3": rule(api.PassR, 3), "tries X 3": rule(api.TriesR, 3), "with X": rule(api.WithR, 0), "not any { with X ; }": group(api.NotR, 0, group(api.AnyR, 0, rule(api.WithR, 0)))} {
			if want = strings.ReplaceAll(want, "X", x.want); x.want == "" {
				want = ""
			}
			expectRulePrinted(t, r, want)
		}
		first, second := oneOfEach(), oneOfEach()
		first.Same[0] = api.Pair{A: x.name, X: x.number, B: "B", Y: 5}
		second.Same[0] = api.Pair{A: "B", X: 5, B: x.name, Y: x.number}
		for _, c := range []api.Catalogue{first, second} {
			if expectPrintedAsDefined(t, c) != (x.want != "") {
				t.Error(x)
			}
		}
	}
}

// P10.2: rules of which one field is not as it must be.
func TestRulesThatAreNotPrintable(t *testing.T) {
	all := group(api.AllR, 0)
	for _, r := range []api.Rule{
		{Op: -1}, {Op: 10}, {Op: 1 << 62}, {Op: -1 << 63}, {Name: "a"},
		{Op: api.AllR, N: 1}, {Op: api.AllR, D: 1}, {Op: api.AllR, Course: 1}, {Op: api.AllR, Name: "a"},
		{Op: api.AnyR, N: -1}, {Op: api.AnyR, D: -1}, {Op: api.AnyR, Course: -1}, {Op: api.AnyR, Name: "_"},
		{Op: api.LeastR, N: -1}, {Op: api.LeastR, N: 201}, {Op: api.LeastR, D: 1}, {Op: api.LeastR, Course: 1}, {Op: api.LeastR, Name: "a"},
		{Op: api.NotR}, {Op: api.NotR, Kids: []api.Rule{all, all}}, {Op: api.NotR, Kids: []api.Rule{{}}}, {Op: api.NotR, N: 1, Kids: []api.Rule{all}}, {Op: api.NotR, D: 1, Kids: []api.Rule{all}}, {Op: api.NotR, Name: "a", Kids: []api.Rule{all}}, {Op: api.NotR, Course: 1, Kids: []api.Rule{all}},
		{Op: api.PassR, Name: "a", N: -1}, {Op: api.PassR, Name: "a", N: 13}, {Op: api.PassR, Name: "a", D: 1}, {Op: api.PassR, Name: "a", Kids: []api.Rule{all}},
		{Op: api.TriesR, Name: "a"}, {Op: api.TriesR, Name: "a", N: 101}, {Op: api.TriesR, Name: "a", N: 1, D: 1}, {Op: api.TriesR, Name: "a", N: 1, Kids: []api.Rule{all}},
		{Op: api.EarnR, N: -1}, {Op: api.EarnR, N: 10001}, {Op: api.EarnR, D: 1}, {Op: api.EarnR, Course: 1}, {Op: api.EarnR, Name: "a"}, {Op: api.EarnR, Kids: []api.Rule{all}},
		{Op: api.MeanR}, {Op: api.MeanR, D: 2}, {Op: api.MeanR, N: 2, D: 2}, {Op: api.MeanR, N: -1, D: 1}, {Op: api.MeanR, N: 1, D: -1}, {Op: api.MeanR, N: -1, D: -1}, {Op: api.MeanR, N: 13, D: 1}, {Op: api.MeanR, N: 12001, D: 1000}, {Op: api.MeanR, N: 1, D: 1001}, {Op: api.MeanR, N: 1, D: 1 << 62}, {Op: api.MeanR, N: 1 << 62, D: 1},
		{Op: api.MeanR, N: 1, D: 1, Course: 1}, {Op: api.MeanR, N: 1, D: 1, Name: "a"}, {Op: api.MeanR, N: 1, D: 1, Kids: []api.Rule{all}},
		{Op: api.WithR, Name: "a", N: 1}, {Op: api.WithR, Name: "a", D: 1}, {Op: api.WithR, Name: "a", Kids: []api.Rule{all}},
		{Op: api.AllR, Kids: []api.Rule{all, {}}}, {Op: api.AnyR, Kids: []api.Rule{{Op: 10}, all}}, {Op: api.LeastR, Kids: []api.Rule{{Op: api.AllR, N: 1}}},
	} {
		expectRulePrinted(t, r, "")
		expectRulePrinted(t, group(api.NotR, 0, r), "")
		expectRulePrinted(t, group(api.AnyR, 0, all, r), "")
		for _, c := range []api.Catalogue{{Courses: []api.Course{{Name: "A", Credits: 1, Need: r, Bar: all}}}, {Courses: []api.Course{{Name: "A", Credits: 1, Need: all, Bar: r}}}} {
			expectPrinted(t, c, "")
		}
	}
}

// P10.2: rules in 15 others, and in 16.
func TestPrintDepth(t *testing.T) {
	for n := range 20 {
		for _, op := range []int{api.AllR, api.AnyR, api.LeastR, api.NotR} {
			for _, last := range []api.Rule{group(api.AllR, 0), named(api.EarnR, "", 5)} {
				r := last
				for range n {
					r = group(op, 0, r)
				}
				want := ""
				if n < mostDepth {
					want = strings.TrimPrefix(printedRule(r), " ")
				}
				expectRulePrinted(t, r, want)
				c := api.Catalogue{Courses: []api.Course{{Name: "A", Credits: 1, Need: r, Bar: r}}}
				if expectPrintedAsDefined(t, c) != (n < mostDepth) {
					t.Error(n)
				}
			}
		}
	}
}

// P10.2: 200 rules in a rule, 64 takes in a programme, and one more.
func TestPrintMany(t *testing.T) {
	for _, op := range []int{api.AllR, api.AnyR, api.LeastR} {
		r := group(op, 0, make([]api.Rule, 201)...)
		for i := range r.Kids {
			r.Kids[i] = named(api.EarnR, "", i)
		}
		expectRulePrinted(t, r, "")
		expectRulePrinted(t, group(api.NotR, 0, r), "")
		r.Kids = r.Kids[:200]
		expectRulePrinted(t, r, strings.TrimPrefix(printedRule(r), " "))
	}
	for n := 62; n < 67; n++ {
		c := oneOfEach()
		take := c.Programmes[0].Requirements[0]
		c.Programmes[0].Requirements = nil
		for range n {
			c.Programmes[0].Requirements = append(c.Programmes[0].Requirements, take)
		}
		if expectPrintedAsDefined(t, c) != (n <= mostTakes) {
			t.Error(n)
		}
	}
}

// P10.2: catalogues of which one field is not as it must be, among others that are.
func TestCataloguesThatAreNotPrintable(t *testing.T) {
	for i, spoil := range []func(c *api.Catalogue){
		func(c *api.Catalogue) { c.Courses[0].Name = "" },
		func(c *api.Catalogue) { c.Courses[0].Name = "1a" },
		func(c *api.Catalogue) { c.Courses[0].Number = 4096 },
		func(c *api.Catalogue) { c.Courses[0].Number = -1 },
		func(c *api.Catalogue) { c.Courses[0].Credits = 0 },
		func(c *api.Catalogue) { c.Courses[0].Credits = 61 },
		func(c *api.Catalogue) { c.Courses[0].Repeat = 3 },
		func(c *api.Catalogue) { c.Courses[0].Repeat = -1 },
		func(c *api.Catalogue) { c.Courses[0].Need = api.Rule{} },
		func(c *api.Catalogue) { c.Courses[0].Bar = api.Rule{} },
		func(c *api.Catalogue) { c.Programmes[0].Name = "" },
		func(c *api.Catalogue) { c.Programmes[0].Name = strings.Repeat("p", 33) },
		func(c *api.Catalogue) { c.Programmes[0].Number = 256 },
		func(c *api.Catalogue) { c.Programmes[0].Number = -1 },
		func(c *api.Catalogue) { c.Programmes[0].Uses = 0 },
		func(c *api.Catalogue) { c.Programmes[0].Uses = 5 },
		func(c *api.Catalogue) { c.Programmes[0].Earn = -1 },
		func(c *api.Catalogue) { c.Programmes[0].Earn = 10001 },
		func(c *api.Catalogue) { c.Programmes[0].Mean = api.Ratio{} },
		func(c *api.Catalogue) { c.Programmes[0].Mean = api.Ratio{Num: 0, Den: 2} },
		func(c *api.Catalogue) { c.Programmes[0].Mean = api.Ratio{Num: 2, Den: 4} },
		func(c *api.Catalogue) { c.Programmes[0].Mean = api.Ratio{Num: 13, Den: 1} },
		func(c *api.Catalogue) { c.Programmes[0].Mean = api.Ratio{Num: 1, Den: 1001} },
		func(c *api.Catalogue) { c.Programmes[0].Mean = api.Ratio{Num: -1, Den: 1} },
		func(c *api.Catalogue) { c.Programmes[0].Mean = api.Ratio{Num: -1, Den: -1} },
		func(c *api.Catalogue) { c.Programmes[0].Requirements[0].Name = "q-" },
		func(c *api.Catalogue) { c.Programmes[0].Requirements[0].Credits = 0 },
		func(c *api.Catalogue) { c.Programmes[0].Requirements[0].Credits = 10001 },
		func(c *api.Catalogue) { c.Programmes[0].Requirements[0].Grade = -1 },
		func(c *api.Catalogue) { c.Programmes[0].Requirements[0].Grade = 13 },
		func(c *api.Catalogue) { c.Programmes[0].Requirements[0].Names = nil },
		func(c *api.Catalogue) { c.Programmes[0].Requirements[0].From = nil },
		func(c *api.Catalogue) {
			c.Programmes[0].Requirements[0].Names, c.Programmes[0].Requirements[0].From = nil, nil
		},
		func(c *api.Catalogue) { c.Programmes[0].Requirements[0].Names[2] = "?" },
		func(c *api.Catalogue) { c.Programmes[0].Requirements[0].From[1] = 4096 },
		func(c *api.Catalogue) { c.Programmes[0].Requirements[0].From[2] = -1 },
		func(c *api.Catalogue) { c.Programmes[0].Requirements[0].From = append([]int{1}, 2, 3, 4) },
		func(c *api.Catalogue) { c.Classes[0].Name = "" },
		func(c *api.Catalogue) { c.Classes[0].Earn = 10001 },
		func(c *api.Catalogue) { c.Classes[0].Mean = api.Ratio{} },
		func(c *api.Catalogue) { c.Fees[0].Name = " f" },
		func(c *api.Catalogue) { c.Fees[0].Credits = 10001 },
		func(c *api.Catalogue) { c.Honours[0].Name = "h " },
		func(c *api.Catalogue) { c.Honours[0].Earn = -1 },
		func(c *api.Catalogue) { c.Honours[0].Mean.Num = 25; c.Honours[0].Mean.Den = 2 },
		func(c *api.Catalogue) { c.Clauses[0].Kind = 0 },
		func(c *api.Catalogue) { c.Clauses[0].Kind = 6 },
		func(c *api.Catalogue) { c.Clauses[0].When = -1 },
		func(c *api.Catalogue) { c.Clauses[0].When = 3 },
		func(c *api.Catalogue) { c.Clauses[0].Action = 0 },
		func(c *api.Catalogue) { c.Clauses[0].Action = 4 },
		func(c *api.Catalogue) { c.Clauses[0].Until = -1 },
		func(c *api.Catalogue) { c.Clauses[0].Until = 13 },
	} {
		c := oneOfEach()
		spoil(&c)
		if expectPrintedAsDefined(t, c) {
			t.Error(i)
		}
		x := oneOfEach()
		x.Courses, x.Same, x.Programmes = append(x.Courses, c.Courses...), append(x.Same, c.Same...), append(x.Programmes, c.Programmes...)
		x.Classes, x.Fees, x.Honours, x.Clauses = append(x.Classes, c.Classes...), append(x.Fees, c.Fees...), append(x.Honours, c.Honours...), append(x.Clauses, c.Clauses...)
		expectPrinted(t, x, "")
	}
}

// P10.2: catalogues by chance, also with numbers beside names, and such of which some fields are other ones.
func TestPrintAsDefined(t *testing.T) {
	r := rand.New(rand.NewSource(3))
	var right, wrong int
	for range 1500 {
		c := catalogue(r)
		if !expectPrintedAsDefined(t, c) {
			t.Fatal(c)
		}
		for range 8 {
			if x := changed(r, c); expectPrintedAsDefined(t, x) {
				right++
			} else {
				wrong++
			}
		}
	}
	if right < 1000 || wrong < 1000 {
		t.Error(right, wrong)
	}
}

// P10.2: rules by chance.
func TestPrintRuleAsDefined(t *testing.T) {
	r := rand.New(rand.NewSource(4))
	for range 1000 {
		x, _, _ := wantedRule(strings.Join(source(r, "rule"), " "))
		expectRulePrinted(t, x, strings.TrimPrefix(printedRule(x), " "))
		for range 5 {
			y := changed(r, x)
			want := ""
			if c := (api.Catalogue{Courses: []api.Course{{Name: "A", Credits: 1, Need: y, Bar: group(api.AnyR, 0)}}}); expectPrintedAsDefined(t, c) {
				want = strings.TrimPrefix(printedRule(y), " ")
			}
			expectRulePrinted(t, y, want)
		}
	}
}

// P10.2: what is printed may be too long for Parse.
func TestPrintLong(t *testing.T) {
	var c api.Catalogue
	for range 20000 {
		c.Fees = append(c.Fees, api.Fee{Name: "a", Credits: 1})
	}
	expectPrinted(t, c, strings.TrimSuffix(strings.Repeat("fee a 1 ; ", 20000), " "))
}
