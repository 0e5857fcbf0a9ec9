package syntax_test

import (
	"strings"
	"testing"

	"sizar/api"
	"sizar/syntax"
)

// wrapped puts a rule into others, in which it stands where the question mark is.
func wrapped(rule string, in ...string) string {
	for _, x := range in {
		before, after, _ := strings.Cut(x, "?")
		rule = before + rule + after
	}
	return rule
}

// cycle returns n others for wrapped.
func cycle(n int) (l []string) {
	around := []string{"all { ? ; }", "not ?", "any { earn 1 ; ? ; }", "least 1 { ? ; earn 1 ; }"}
	for i := range n {
		l = append(l, around[i%len(around)])
	}
	return l
}

// atoms are rules that contain no others.
var atoms = []string{"all { }", "any { }", "least 3 { }", "pass a 1", "tries # 5 1", "earn 5", "mean 1 / 2", "with a"}

// P10.1: rules in 15 others are read, those in more are refused.
func TestDepth(t *testing.T) {
	for n := range 20 {
		for first := range 4 {
			for _, a := range atoms {
				src := wrapped(a, cycle(n + first)[first:]...)
				expectAsDefined(t, src)
				want := api.OK
				if n > 15 {
					want = api.ErrLimit
				}
				if _, at, e := syntax.Rule(src); e != want || (at == 0) != (e == api.OK) {
					t.Errorf("%q: %d, %d", src, at, e)
				}
			}
		}
	}
}

// P10.1: a rule that begins too deep is refused, and so is the not before it.
func TestNotAtTheGreatestDepth(t *testing.T) {
	for _, s := range []string{"not ", "all { ", "any { ", "least 2 { ", "any { earn 1 ; "} {
		before := strings.Repeat(s, 14)
		expectRule(t, before+"not", api.Rule{}, len(before)+3, api.ErrSyntax)
		expectRule(t, before+"not ;", api.Rule{}, len(before)+4, api.ErrSyntax)
		expectRule(t, before+"not not", api.Rule{}, len(before)+4, api.ErrLimit)
		expectRule(t, before+"not not ;", api.Rule{}, len(before)+4, api.ErrLimit)
		expectRule(t, before+"not all { earn", api.Rule{}, len(before)+10, api.ErrLimit)
		expectRule(t, before+"not all { not", api.Rule{}, len(before)+10, api.ErrLimit)
		expectRule(t, before+"not all { ;", api.Rule{}, len(before)+10, api.ErrSyntax)
		expectRule(t, before+"not all not", api.Rule{}, len(before)+8, api.ErrSyntax)
	}
}

// P10.1: what can stand where the seventeenth level would begin.
func TestTokensAtTheGreatestDepth(t *testing.T) {
	for _, open := range []string{"all { ", "any { ", "least 5 { "} {
		before := strings.Repeat("not ", 15) + open
		for _, s := range vocabulary {
			want := api.ErrSyntax
			if strings.Contains(" all any least not pass tries earn mean with ", " "+s+" ") {
				want = api.ErrLimit
			}
			if s != "}" {
				expectRule(t, before+s, api.Rule{}, len(before), want)
			} else if _, at, e := syntax.Rule(before + s); at != 0 || e != api.OK {
				t.Error(before+s, at, e)
			}
		}
	}
}

// P10.1: 200 rules in a rule, at the first and the last level, and one more.
func TestManyRules(t *testing.T) {
	for _, before := range []string{"", strings.Repeat("not ", 14)} {
		for _, open := range []string{"all { ", "any { ", "least 200 { "} {
			for _, a := range append(atoms, "not earn 5") {
				if before != "" && a == "not earn 5" {
					continue
				}
				src := before + open + strings.Repeat(a+" ; ", 200)
				r, at, e := syntax.Rule(src + "}")
				for len(r.Kids) == 1 {
					r = r.Kids[0]
				}
				if at != 0 || e != api.OK || len(r.Kids) != 200 {
					t.Error(len(r.Kids), at, e)
				}
				expectRule(t, src+a+" ; }", api.Rule{}, len(src), api.ErrLimit)
				expectRule(t, src+strings.Fields(a)[0], api.Rule{}, len(src), api.ErrLimit)
				expectRule(t, src+"not", api.Rule{}, len(src), api.ErrLimit)
				expectRule(t, src+"not 5", api.Rule{}, len(src), api.ErrLimit)
				expectRule(t, src, api.Rule{}, len(src), api.ErrSyntax)
				for _, s := range []string{"5", "{", ";", "al", "All", "take", "need", "# 5"} {
					expectRule(t, src+s, api.Rule{}, len(src), api.ErrSyntax)
				}
			}
		}
	}
	half := "any { " + strings.Repeat("earn 1 ; ", 200) + "} ; "
	if r, _, e := syntax.Rule("all { " + strings.Repeat(half, 30) + "}"); e != api.OK || len(r.Kids) != 30 || len(r.Kids[29].Kids) != 200 {
		t.Error(len(r.Kids), e)
	}
}

// P10.1: both limits of rules at once, in a catalogue.
func TestLimitsInCourses(t *testing.T) {
	for _, part := range []string{"need ", "bar ", "need earn 1; bar "} {
		before := "course 1 A 1 { " + part
		expectParsed(t, before+strings.Repeat("not ", 16)+"earn 1; }", api.Catalogue{}, len(before)+60, api.ErrLimit)
		if c, at, e := syntax.Parse(before + strings.Repeat("not ", 15) + "earn 1; }"); at != 0 || e != api.OK || len(c.Courses) != 1 {
			t.Error(at, e)
		}
		src := before + "any { " + strings.Repeat("earn 1; ", 200)
		expectParsed(t, src+"any { }; }; }", api.Catalogue{}, len(src), api.ErrLimit)
		expectParsed(t, src+"bar", api.Catalogue{}, len(src), api.ErrSyntax)
	}
}

// P10.1: 64 takes in a programme, and one more.
func TestManyTakes(t *testing.T) {
	take := "take x 1 from A ; "
	for _, before := range []string{"programme 1 P { ", "programme 1 P { uses 1 ; ", "programme 1 P { } programme 2 Q { earn 5 ; mean 1 / 1 ; "} {
		src := before + strings.Repeat(take, 64)
		c, at, e := syntax.Parse(src + "} " + before + strings.Repeat(take, 64) + "}")
		if at != 0 || e != api.OK || len(c.Programmes[len(c.Programmes)-1].Requirements) != 64 {
			t.Error(at, e)
		}
		expectParsed(t, src+take+"}", api.Catalogue{}, len(src), api.ErrLimit)
		expectParsed(t, src+"take", api.Catalogue{}, len(src), api.ErrLimit)
		expectParsed(t, src+"take take", api.Catalogue{}, len(src), api.ErrLimit)
		expectParsed(t, src+"take 5", api.Catalogue{}, len(src), api.ErrLimit)
		for _, s := range []string{"takes", "5", ";", "uses", "earn", "all", "", "{"} {
			expectParsed(t, src+s, api.Catalogue{}, len(src), api.ErrSyntax)
		}
	}
}
