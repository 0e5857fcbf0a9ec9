package syntax_test

import (
	"fmt"
	"math/rand"
	"reflect"
	"strings"
	"testing"

	"sizar/api"
	"sizar/syntax"
)

// named and group return rules as they are read.
func named(op int, name string, n int) api.Rule { return api.Rule{Op: op, Name: name, N: n} }

func group(op, n int, kids ...api.Rule) api.Rule {
	return api.Rule{Op: op, N: n, Kids: kids}
}

// shown is a source of which the middle is left out.
func shown(src string) string {
	if len(src) > 400 {
		return src[:200] + " ... " + src[len(src)-200:]
	}
	return src
}

func expectParsed(t *testing.T, src string, want api.Catalogue, at int, e api.Errno) {
	t.Helper()
	c, place, f := syntax.Parse(src)
	if place != at || f != e || !reflect.DeepEqual(clone(c), clone(want)) {
		t.Fatalf("%q: %v, %d, %d instead of %v, %d, %d", shown(src), c, place, f, want, at, e)
	}
}

func expectRule(t *testing.T, src string, want api.Rule, at int, e api.Errno) {
	t.Helper()
	r, place, f := syntax.Rule(src)
	if place != at || f != e || !reflect.DeepEqual(clone(r), clone(want)) {
		t.Fatalf("%q: %v, %d, %d instead of %v, %d, %d", shown(src), r, place, f, want, at, e)
	}
}

// expectRefused expects an error of Parse at the last token of a source, whatever follows it.
func expectRefused(t *testing.T, src string, e api.Errno) {
	t.Helper()
	at := strings.LastIndexByte(src, ' ') + 1
	for _, rest := range []string{"", " }", " ; 1", " // a"} {
		expectParsed(t, src+rest, api.Catalogue{}, at, e)
	}
}

// expectAsDefined returns the error of Parse.
func expectAsDefined(t *testing.T, src string) (e api.Errno) {
	t.Helper()
	c, at, e := wantedCatalogue(src)
	expectParsed(t, src, c, at, e)
	r, at, f := wantedRule(src)
	expectRule(t, src, r, at, f)
	return e
}

// P10.1: the chapter's examples.
func TestParseExamples(t *testing.T) {
	expectParsed(t, "", api.Catalogue{}, 0, api.OK)
	expectParsed(t, "course 17 MATH1 4 { need pass PRE 5; }", api.Catalogue{Courses: []api.Course{
		{Name: "MATH1", Number: 17, Credits: 4, Repeat: api.BestA, Need: named(api.PassR, "PRE", 5), Bar: group(api.AnyR, 0)},
	}}, 0, api.OK)
	expectParsed(t, "fee low 0", api.Catalogue{}, 9, api.ErrSyntax)
	expectParsed(t, "class a 0 mean 13/1;", api.Catalogue{}, 18, api.ErrSyntax)
	expectRule(t, "least 2 { with #3; with #4; }", group(api.LeastR, 2, api.Rule{Op: api.WithR, Course: 3}, api.Rule{Op: api.WithR, Course: 4}), 0, api.OK)
	expectRule(t, "not not with A", group(api.NotR, 0, group(api.NotR, 0, named(api.WithR, "A", 0))), 0, api.OK)
}

// P10.1: each definition, with and without its optional parts.
func TestDefinitions(t *testing.T) {
	all, any := group(api.AllR, 0), group(api.AnyR, 0)
	for src, want := range map[string]api.Catalogue{
		"course 0 a 1 { }":                    {Courses: []api.Course{{Name: "a", Credits: 1, Need: all, Bar: any}}},
		"course 4095 a 60 best { }":           {Courses: []api.Course{{Name: "a", Number: 4095, Credits: 60, Need: all, Bar: any}}},
		"course 1 a 2 last { need any { }; }": {Courses: []api.Course{{Name: "a", Number: 1, Credits: 2, Repeat: api.LastA, Need: any, Bar: any}}},
		"course 1 a 2 each { bar all { }; }":  {Courses: []api.Course{{Name: "a", Number: 1, Credits: 2, Repeat: api.EachA, Need: all, Bar: all}}},
		"course 1 a 2 { need with b; bar earn 3; }": {Courses: []api.Course{
			{Name: "a", Number: 1, Credits: 2, Need: named(api.WithR, "b", 0), Bar: named(api.EarnR, "", 3)},
		}},
		"same a = b;":                      {Same: []api.Pair{{A: "a", B: "b"}}},
		"same a = #0;":                     {Same: []api.Pair{{A: "a"}}},
		"same #4095 = b;":                  {Same: []api.Pair{{X: 4095, B: "b"}}},
		"same #7 = #8;":                    {Same: []api.Pair{{X: 7, Y: 8}}},
		"programme 0 p { }":                {Programmes: []api.Programme{{Name: "p", Uses: 1, Mean: api.Ratio{Num: 0, Den: 1}}}},
		"class a 0 mean 0/5;":              {Classes: []api.Class{{Name: "a", Mean: api.Ratio{Num: 0, Den: 1}}}},
		"honour a 10000 mean 12000/1000;":  {Honours: []api.Class{{Name: "a", Earn: 10000, Mean: api.Ratio{Num: 12, Den: 1}}}},
		"fee a 10000;":                     {Fees: []api.Fee{{Name: "a", Credits: 10000}}},
		"when degree up reverse until 12;": {Clauses: []api.Clause{{Kind: 5, When: api.UpC, Action: api.ReverseC, Until: 12}}},
		"programme 255 p { uses 4; earn 10000; mean 7/2; take q 10000 from a, #3, b at 12 home; take r 1 from #0; }": {Programmes: []api.Programme{
			{Name: "p", Number: 255, Uses: 4, Earn: 10000, Mean: api.Ratio{Num: 7, Den: 2}, Requirements: []api.Requirement{
				{Name: "q", Credits: 10000, Grade: 12, Home: true, Names: []string{"a", "", "b"}, From: []int{0, 3, 0}},
				{Name: "r", Credits: 1, Grade: 1, Names: []string{""}, From: []int{0}},
			}},
		}},
	} {
		expectParsed(t, src, want, 0, api.OK)
		expectAsDefined(t, src)
	}
}

// P10.1: each kind of rule.
func TestRules(t *testing.T) {
	for src, want := range map[string]api.Rule{
		"all { }":               group(api.AllR, 0),
		"any { all { }; }":      group(api.AnyR, 0, group(api.AllR, 0)),
		"least 0 { }":           group(api.LeastR, 0),
		"least 200 { earn 1; }": group(api.LeastR, 200, named(api.EarnR, "", 1)),
		"not any { }":           group(api.NotR, 0, group(api.AnyR, 0)),
		"pass a 0":              named(api.PassR, "a", 0),
		"pass #5 12":            {Op: api.PassR, Course: 5, N: 12},
		"tries a 1":             named(api.TriesR, "a", 1),
		"tries #0 100":          {Op: api.TriesR, N: 100},
		"earn 0":                named(api.EarnR, "", 0),
		"earn 10000":            named(api.EarnR, "", 10000),
		"mean 0/1000":           {Op: api.MeanR, N: 0, D: 1},
		"mean 11999/1000":       {Op: api.MeanR, N: 11999, D: 1000},
		"mean 12/1":             {Op: api.MeanR, N: 12, D: 1},
		"mean 14 / 4":           {Op: api.MeanR, N: 7, D: 2},
		"with a":                named(api.WithR, "a", 0),
		"with # 4095":           {Op: api.WithR, Course: 4095},
		"all { pass all 1; any { }; not with with; }": group(api.AllR, 0, named(api.PassR, "all", 1), group(api.AnyR, 0), group(api.NotR, 0, named(api.WithR, "with", 0))),
	} {
		expectRule(t, src, want, 0, api.OK)
		expectAsDefined(t, src)
	}
}

// P10.1: definitions of each kind are in the order of the source, whatever is between them.
func TestOrderOfDefinitions(t *testing.T) {
	var src string
	var want api.Catalogue
	for i := range 20 {
		name := fmt.Sprint("n", i*7%20)
		src += fmt.Sprintf("when fee any keep until %d; fee %s %d; same %s = #%d; class %s %d mean 1/2; course %d %s 1 { } honour %s 0 mean 0/1; programme %d %s { }\n", i%13, name, i, name, i, name, i, i, name, name, i, name)
		want.Clauses = append(want.Clauses, api.Clause{Kind: api.FeeD, Action: api.KeepC, Until: i % 13})
		want.Fees = append(want.Fees, api.Fee{Name: name, Credits: i})
		want.Same = append(want.Same, api.Pair{A: name, Y: i})
		want.Classes = append(want.Classes, api.Class{Name: name, Earn: i, Mean: api.Ratio{Num: 1, Den: 2}})
		want.Courses = append(want.Courses, api.Course{Name: name, Number: i, Credits: 1, Need: group(api.AllR, 0), Bar: group(api.AnyR, 0)})
		want.Honours = append(want.Honours, api.Class{Name: name, Mean: api.Ratio{Num: 0, Den: 1}})
		want.Programmes = append(want.Programmes, api.Programme{Name: name, Number: i, Uses: 1, Mean: api.Ratio{Num: 0, Den: 1}})
	}
	expectParsed(t, src, want, 0, api.OK)
}

// P10.1: all clauses.
func TestClauses(t *testing.T) {
	for k, kind := range strings.Fields("admit class fee honour degree") {
		for w, when := range strings.Fields("any up down") {
			for a, action := range strings.Fields("keep reopen reverse") {
				src := strings.Join([]string{"when", kind, when, action, "until 3;"}, " ")
				expectParsed(t, src, api.Catalogue{Clauses: []api.Clause{{Kind: k + 1, When: w, Action: a + 1, Until: 3}}}, 0, api.OK)
			}
		}
	}
}

// P10.1: words are not reserved.
func TestWordsAsNames(t *testing.T) {
	for _, w := range names {
		src := strings.ReplaceAll("course 1 W 1 each { need all { pass W 1; with W; tries W 1; }; bar not with W; } same W = W; class W 0 mean 0/1; honour W 0 mean 0/1; fee W 0; programme 1 W { take W 1 from W, W at 0 home; take W 1 from W; }", "W", w)
		if e := expectAsDefined(t, src); e != api.OK {
			t.Error(w, e)
		}
	}
}

// P10.1: each number at the ends of its range, and next to them, where it is the last token that is read.
func TestRanges(t *testing.T) {
	for _, x := range []struct {
		before      string
		first, last int
		after       string
	}{
		{"course ", 0, 4095, " a 1 { }"},
		{"course 1 a ", 1, 60, " { }"},
		{"same # ", 0, 4095, " = a;"},
		{"same a = # ", 0, 4095, ";"},
		{"course 1 a 1 { need with # ", 0, 4095, "; }"},
		{"course 1 a 1 { need pass # ", 0, 4095, " 1; }"},
		{"course 1 a 1 { bar tries # ", 0, 4095, " 1; }"},
		{"programme 1 p { take a 1 from a, # ", 0, 4095, "; }"},
		{"programme ", 0, 255, " p { }"},
		{"programme 1 p { uses ", 1, 4, "; }"},
		{"programme 1 p { earn ", 0, 10000, "; }"},
		{"course 1 a 1 { need earn ", 0, 10000, "; }"},
		{"class a ", 0, 10000, " mean 0/1;"},
		{"honour a ", 0, 10000, " mean 0/1;"},
		{"fee a ", 0, 10000, ";"},
		{"programme 1 p { take a ", 1, 10000, " from a; }"},
		{"programme 1 p { take a 1 from a at ", 0, 12, "; }"},
		{"course 1 a 1 { need pass a ", 0, 12, "; }"},
		{"course 1 a 1 { need tries a ", 1, 100, "; }"},
		{"course 1 a 1 { need least ", 0, 200, " { }; }"},
		{"when fee any keep until ", 0, 12, ";"},
		{"class a 0 mean ", 0, 12000, " / 1000;"},
		{"class a 0 mean 0 / ", 1, 1000, ";"},
		{"honour a 0 mean 500 / ", 42, 1000, ";"},
		{"programme 1 p { mean 12 / ", 1, 1000, "; }"},
		{"course 1 a 1 { need mean 12000 / ", 1000, 1000, "; }"},
	} {
		for _, n := range []int{x.first, x.first + 1, (x.first + x.last) / 2, x.last - 1, x.last} {
			src := fmt.Sprint(x.before, n, x.after)
			if e := expectAsDefined(t, src); n >= x.first && n <= x.last && e != api.OK {
				t.Error(src, e)
			}
		}
		for _, n := range []int{x.last + 1, 2*x.last + 20000, 1 << 32, 1<<32 + x.first, 1 << 40} {
			expectRefused(t, fmt.Sprint(x.before, n), api.ErrSyntax)
		}
		if x.first > 0 {
			expectRefused(t, fmt.Sprint(x.before, 0), api.ErrSyntax)
			expectRefused(t, fmt.Sprint(x.before, x.first-1), api.ErrSyntax)
		}
	}
}

// P10.1: a ratio of more than 12 is refused at its second number only.
func TestRatios(t *testing.T) {
	for n := 0; n <= 12000; n += 37 {
		for _, d := range []int{1, 2, n / 12, n/12 + 1, 999, 1000} {
			if d == 0 || d > 1000 {
				continue
			}
			expectAsDefined(t, fmt.Sprintf("mean %d / %d", n, d))
			expectAsDefined(t, fmt.Sprintf("class a 0 mean %d / %d ;", n, d))
		}
	}
	expectRule(t, "mean 25 / 2", api.Rule{}, 10, api.ErrSyntax)
	expectRule(t, "mean 12000 / 999", api.Rule{}, 13, api.ErrSyntax)
	expectRule(t, "mean 12000", api.Rule{}, 10, api.ErrSyntax)
	expectRule(t, "mean 12001 / 1000", api.Rule{}, 5, api.ErrSyntax)
	expectRule(t, "mean 0 / 0", api.Rule{}, 9, api.ErrSyntax)
}

// P10.1: what is derived from the grammar by chance, and what is not.
func TestParseAsDefined(t *testing.T) {
	r := rand.New(rand.NewSource(1))
	for range 1500 {
		for _, name := range []string{"catalogue", "rule"} {
			l := source(r, name)
			if len(l) > 3000 {
				continue
			}
			src := spaced(r, l)
			_, _, e := syntax.Parse(src)
			if name == "rule" {
				_, _, e = syntax.Rule(src)
			}
			if e != api.OK {
				t.Fatalf("%q: %d", shown(src), e)
			}
			expectAsDefined(t, src)
			for range 5 {
				expectAsDefined(t, spaced(r, spoilt(r, l)))
			}
		}
	}
}

// P10.1: each token of a vocabulary after each beginning of a source.
func TestEachNextToken(t *testing.T) {
	r := rand.New(rand.NewSource(2))
	for _, name := range strings.Fields("catalogue course same programme class fee honour clause rule rule rule") {
		for range 4 {
			l := source(r, name)
			for n := range min(len(l), 60) + 1 {
				before := strings.Join(l[:n], " ")
				for _, s := range vocabulary {
					expectAsDefined(t, before+" "+s)
				}
			}
		}
	}
}

// P10.1: a source that ends too early, at each token; what is after its last token is a part of it.
func TestSourceEndsEarly(t *testing.T) {
	src := "course 1 A 2 each { need least 1 { pass A 3 ; not mean 1 / 2 ; } ; bar with # 3 ; } same A = B ; programme 1 P { uses 1 ; earn 2 ; mean 3 / 4 ; take x 1 from A , # 2 at 1 home ; } class a 0 mean 1 / 1 ; fee b 2 ; honour c 3 mean 1 / 1 ; when fee any keep until 5 ;"
	whole := map[int]bool{0: true}
	for _, end := range []string{"bar with # 3 ; }", "= B ;", "home ; }", "class a 0 mean 1 / 1 ;", "fee b 2 ;", "honour c 3 mean 1 / 1 ;", "until 5 ;"} {
		whole[strings.Index(src, end)+len(end)] = true
	}
	for n := range len(src) + 1 {
		if n < len(src) && src[n] != ' ' {
			continue
		}
		for _, rest := range []string{"", " ", "\n// a", "\n\t\n"} {
			c, at, e := syntax.Parse(src[:n] + rest)
			if whole[n] {
				expectAsDefined(t, src[:n]+rest)
			} else if at != n+len(rest) || e != api.ErrSyntax || !syntax.Same(c, api.Catalogue{}) {
				t.Errorf("%q: %d, %d", src[:n]+rest, at, e)
			}
		}
	}
	expectRule(t, "", api.Rule{}, 0, api.ErrSyntax)
	expectRule(t, " // all", api.Rule{}, 7, api.ErrSyntax)
}

// P10.1: tokens after a rule, or after a definition, are refused.
func TestTokensAfterTheEnd(t *testing.T) {
	for _, s := range vocabulary {
		for _, src := range []string{"with A ", "all { } ", "not earn 5 ", "mean 1 / 2 "} {
			expectRule(t, src+s, api.Rule{}, len(src), api.ErrSyntax)
		}
		expectAsDefined(t, "fee a 1 ; "+s)
	}
	expectParsed(t, "fee a 1 ; ;", api.Catalogue{}, 10, api.ErrSyntax)
	expectParsed(t, "course 1 A 1 { } ;", api.Catalogue{}, 17, api.ErrSyntax)
	expectParsed(t, "with A", api.Catalogue{}, 0, api.ErrSyntax)
}

// P10.1: optional parts in another order, or twice.
func TestOrderOfParts(t *testing.T) {
	for _, src := range []string{
		"course 1 A 1 { bar with A ; need",
		"course 1 A 1 { need with A ; need",
		"course 1 A 1 { bar with A ; bar",
		"course 1 A 1 best last",
		"course 1 A best",
		"course 1 A 1 ;",
		"programme 1 P { uses 1 ; uses",
		"programme 1 P { earn 1 ; uses",
		"programme 1 P { mean 1 / 1 ; earn",
		"programme 1 P { take a 1 from A ; mean",
		"programme 1 P { take a 1 from A home at",
		"programme 1 P { take a 1 from A at 1 at",
		"programme 1 P { take a 1 from A home home",
		"programme 1 P { take a 1 from A , ,",
		"programme 1 P { take a 1 from ;",
		"programme 1 P { take a 1 from 5",
		"programme 1 P { take a 1 from # A",
		"programme P",
		"class a mean",
		"class a 0 ;",
		"honour a 0 1",
		"fee 1",
		"same A = =",
		"same A ,",
		"when any",
		"when admit keep",
		"when admit up until",
		"when admit up keep 5",
		"Course",
		"rule",
		"12",
		"{",
	} {
		expectRefused(t, src, api.ErrSyntax)
	}
}

// P10.1: the error of Lex comes first, wherever it is.
func TestErrorsOfLex(t *testing.T) {
	for _, src := range []string{"$", "; $", "all $", "fee a 1 ; $", "course 5000 $", "fee a 1 ; fee $"} {
		at := len(src) - 1
		expectParsed(t, src, api.Catalogue{}, at, api.ErrText)
		expectRule(t, src, api.Rule{}, at, api.ErrText)
	}
	expectRule(t, strings.Repeat("not ", 20)+"007", api.Rule{}, 80, api.ErrText)
	for _, s := range []string{" ", ";", "$", "fee a 1; "} {
		long := strings.Repeat(s, mostBytes+1)[:mostBytes+1]
		expectParsed(t, long, api.Catalogue{}, 0, api.ErrLimit)
		expectRule(t, long, api.Rule{}, 0, api.ErrLimit)
	}
}

// P10.1: the longest sources.
func TestLongestSources(t *testing.T) {
	for _, s := range []string{"fee a 1;", "same a=b;", "course 1 a 1{}", "programme 1 p{}", "class a 1 mean 1/1;", "when fee any keep until 1;"} {
		src := strings.Repeat(s, mostBytes/len(s))
		src += strings.Repeat(" ", mostBytes-len(src))
		c, at, e := syntax.Parse(src)
		if n := len(c.Fees) + len(c.Same) + len(c.Courses) + len(c.Programmes) + len(c.Classes) + len(c.Clauses); n != mostBytes/len(s) || at != 0 || e != api.OK {
			t.Error(s, n, at, e)
		}
	}
	src := "programme 1 p{take a 1 from b" + strings.Repeat(",b", 30000) + ";}"
	if c, at, e := syntax.Parse(src); e != api.OK || at != 0 || len(c.Programmes[0].Requirements[0].Names) != 30001 {
		t.Error(at, e)
	}
}
