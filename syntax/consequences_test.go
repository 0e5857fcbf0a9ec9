package syntax_test

import (
	"math/rand"
	"reflect"
	"strings"
	"sync"
	"testing"

	"sizar/api"
	"sizar/syntax"
)

// P10.4: parsing what was printed returns the catalogue, in which the number of each reference that has a name is 0.
func TestParseOfPrint(t *testing.T) {
	r := rand.New(rand.NewSource(6))
	for range 1500 {
		c := catalogue(r)
		src, e := syntax.Print(c)
		if e != api.OK {
			t.Fatal(c, e)
		}
		want, _ := readBack(c)
		if len(src) <= mostBytes {
			expectParsed(t, src, want, 0, api.OK)
		} else {
			expectParsed(t, src, api.Catalogue{}, 0, api.ErrLimit)
		}
	}
}

// P10.4: the same of rules.
func TestRuleOfPrintRule(t *testing.T) {
	r := rand.New(rand.NewSource(7))
	for range 1500 {
		x, _, _ := wantedRule(strings.Join(source(r, "rule"), " "))
		want := clone(x)
		referencesOf(&x, func(name string, number *int) {
			if name != "" {
				*number = r.Intn(4096)
			}
		})
		src, e := syntax.PrintRule(x)
		if e != api.OK {
			t.Fatal(x, e)
		}
		expectRule(t, src, want, 0, api.OK)
	}
}

// P10.4: what Parse returns is printable, and printing it and parsing again returns it; then printing returns the same source.
func TestPrintOfParse(t *testing.T) {
	r := rand.New(rand.NewSource(8))
	for range 1500 {
		c, _, e := syntax.Parse(spaced(r, source(r, "catalogue")))
		if e != api.OK {
			t.Fatal(e)
		}
		src, e := syntax.Print(c)
		again, _, f := syntax.Parse(src)
		text, g := syntax.Print(again)
		if e != api.OK || f != api.OK || g != api.OK || !syntax.Same(c, again) || text != src {
			t.Fatalf("%q: %d, %d, %d", shown(src), e, f, g)
		}
	}
}

// P10.4: the longest lists of rules and takes are printable.
func TestPrintOfLongest(t *testing.T) {
	for _, src := range []string{
		"course 1 A 1 { need " + strings.Repeat("not ", 14) + "least 200 { " + strings.Repeat("any { } ; ", 200) + "} ; }",
		"programme 1 P { " + strings.Repeat("take x 10000 from A , # 4095 at 0 home ; ", 64) + "}",
		strings.TrimSpace(strings.Repeat("when degree down reverse until 12 ; ", 1700)),
	} {
		c, at, e := syntax.Parse(src)
		if at != 0 || e != api.OK {
			t.Fatal(at, e)
		}
		expectPrinted(t, c, src)
	}
}

// P10.4: white space and comments do not change the result, apart from the place, which is that of the same token.
func TestSpace(t *testing.T) {
	r := rand.New(rand.NewSource(9))
	for range 1500 {
		l := source(r, "catalogue")
		if r.Intn(2) == 0 {
			l = spoilt(r, l)
		}
		starts := func(src string) (p []int) {
			at := 0
			for _, s := range l {
				for !strings.HasPrefix(src[at:], s) || strings.HasPrefix(src[at:], "//") {
					if strings.HasPrefix(src[at:], "//") {
						at += strings.IndexByte(src[at:], '\n')
					}
					at++
				}
				p = append(p, at)
				at += len(s)
			}
			return append(p, len(src))
		}
		first, second := strings.Join(l, " "), spaced(r, l)
		a, at, e := syntax.Parse(first)
		b, place, f := syntax.Parse(second)
		if e != f || !syntax.Same(a, b) {
			t.Fatalf("%q, %q: %d, %d", shown(first), shown(second), e, f)
		}
		if p, q := starts(first), starts(second); e != api.OK {
			i := indexOf(p, at)
			if i < 0 || q[i] != place {
				t.Fatalf("%q, %q: %d, %d", shown(first), shown(second), at, place)
			}
		}
	}
}

// indexOf returns the last position of n, where a source ends.
func indexOf(l []int, n int) int {
	for i := len(l) - 1; i >= 0; i-- {
		if l[i] == n {
			return i
		}
	}
	return -1
}

// P10.4: the place of an error is an index of a byte of the source, or its length, whatever its bytes are.
func TestPlaces(t *testing.T) {
	r := rand.New(rand.NewSource(10))
	for range 20000 {
		b := make([]byte, r.Intn(20))
		for i := range b {
			b[i] = byte(r.Intn(256))
			if r.Intn(8) > 0 {
				b[i] = "ab{};=#/1 \n"[r.Intn(11)]
			}
		}
		for _, src := range []string{string(b), "same a " + string(b), "all {" + string(b)} {
			c, at, e := syntax.Parse(src)
			x, place, f := syntax.Rule(src)
			if at < 0 || at > len(src) || place < 0 || place > len(src) {
				t.Fatalf("%q: %d, %d", src, at, place)
			}
			if e == api.OK && at != 0 || f == api.OK && place != 0 || e != api.OK && !reflect.ValueOf(c).IsZero() || f != api.OK && !reflect.ValueOf(x).IsZero() {
				t.Fatalf("%q: %d, %d, %v, %v", src, at, place, c, x)
			}
			expectAsDefined(t, src)
		}
	}
}

// P10.4: a source up to the place of an error begins a correct one: what follows does not matter.
func TestAfterAnError(t *testing.T) {
	r := rand.New(rand.NewSource(11))
	for range 1000 {
		src := strings.Join(spoilt(r, source(r, "catalogue")), " ")
		_, at, e := syntax.Parse(src)
		if e == api.OK || at == len(src) {
			continue
		}
		token, _, _ := strings.Cut(src[at:], " ")
		expectParsed(t, src[:at]+token+" } ; // a", api.Catalogue{}, at, e)
		if _, place, f := syntax.Parse(src[:at]); f != api.OK && (place != at || f != api.ErrSyntax) {
			t.Fatalf("%q: %d, %d", shown(src), place, f)
		}
	}
}

// P10.1 to P10.3 (R2): arguments stay as they are, and the results of calls at the same time too.
func TestPurity(t *testing.T) {
	c := oneOfEach()
	before := clone(c)
	src, _ := syntax.Print(c)
	first, _, _ := syntax.Parse(src)
	kept := clone(first)
	var calls sync.WaitGroup
	for range 4 {
		calls.Go(func() {
			for range 100 {
				x, _, e := syntax.Parse(src)
				s, f := syntax.Print(c)
				text, g := syntax.PrintRule(c.Courses[0].Need)
				if e != api.OK || f != api.OK || g != api.OK || s != src || text == "" || !syntax.Same(x, kept) {
					t.Error(e, f, g)
				}
				x.Courses[0].Need.Kids[0].Name = "changed"
				x.Programmes[0].Requirements[0].From[0] = 77
			}
		})
	}
	calls.Wait()
	if !reflect.DeepEqual(clone(c), before) || !reflect.DeepEqual(clone(first), kept) {
		t.Error(c, first)
	}
}

// P10.1, P10.4: sources of any bytes.
func FuzzParse(f *testing.F) {
	for _, src := range []string{"", "course 17 MATH1 4 { need pass PRE 5; }", "fee low 0", "class a 0 mean 13/1;", "least 2 { with #3; with #4; }", "not not with A", "programme 1 P { uses 2; take x 1 from A, #2 at 0 home; }", "when admit up keep until 3;", "all { not all { "} {
		f.Add(src)
	}
	f.Fuzz(func(t *testing.T, src string) {
		if len(src) < 5000 && expectAsDefined(t, src) == api.OK {
			c, _, _ := syntax.Parse(src)
			if !expectPrintedAsDefined(t, c) {
				t.Errorf("%q: %v", src, c)
			}
		}
	})
}
