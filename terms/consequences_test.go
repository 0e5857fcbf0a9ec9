package terms_test

import (
	"slices"
	"testing"

	"sizar/api"
	"sizar/terms"
)

// P6.3: results are valid, and have a term exactly if the definition says so.
func TestResults(t *testing.T) {
	l := valid()
	for _, a := range l {
		for _, b := range l[:40] {
			for _, o := range operations() {
				got := result(t, a, b, o.do)
				if terms.Check(got) != api.OK || !isValid(got) || had(got) != o.defined(of(a), of(b)) {
					t.Fatal(o.name, a, b, got)
				}
			}
		}
	}
}

// P6.3: union and intersection are commutative, also in their errors.
func TestCommutative(t *testing.T) {
	l := append(valid(), invalid()...)
	for _, a := range l {
		for _, b := range l {
			for _, do := range []func(a, b []api.Span) ([]api.Span, api.Errno){terms.Union, terms.Meet} {
				x, e := do(a, b)
				if y, f := do(b, a); !slices.Equal(x, y) || e != f {
					t.Error(a, b, x, y, e, f)
				}
			}
		}
	}
}

// P6.3: union and intersection are associative.
func TestAssociative(t *testing.T) {
	l := append(append(borders()[2:], random(6, 2)...), subsets(0, 1, 3)...)
	for _, do := range []func(a, b []api.Span) ([]api.Span, api.Errno){terms.Union, terms.Meet} {
		for _, a := range l {
			for _, b := range l {
				left := result(t, a, b, do)
				for _, c := range l {
					if !slices.Equal(result(t, left, c, do), result(t, a, result(t, b, c, do), do)) {
						t.Error(a, b, c)
					}
				}
			}
		}
	}
}

// P6.3: a set is made of what it shares with another one and of the rest, and the terms of both add up.
func TestParts(t *testing.T) {
	l := valid()
	for _, a := range l {
		for _, b := range l {
			union, meet, minus := result(t, a, b, terms.Union), result(t, a, b, terms.Meet), result(t, a, b, terms.Minus)
			if !slices.Equal(result(t, meet, minus, terms.Union), a) || len(result(t, meet, minus, terms.Meet)) > 0 {
				t.Error("parts", a, b, meet, minus)
			}
			if counted(t, union)+counted(t, meet) != counted(t, a)+counted(t, b) {
				t.Error("count", a, b, union, meet)
			}
		}
	}
}
